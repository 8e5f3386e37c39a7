/- Gate, part LC: the walk of GateChecks. -/
import Derived.Test.YtdoklolinbmhpaaLA
import Derived.Test.YtdoklolinbmhpaaCG
set_option linter.all false
namespace Go.Proofs.Ytdoklolinbmhpaa
open Go.RowKit

set_option maxRecDepth 100000 in
set_option maxHeartbeats 4000000 in
theorem lawChecks_any (z : SetV) (w : World) (hok : SetOk w z) :
    Calls Try.prog 3 #[.agg #[.slice z.ga z.gs.length z.gc, .slice z.ra z.rs.length z.rc]] w fun e w' => e = .returned (.bool true) ∧ Below w.heap.size w w' := by
  have HS := hid (fun W (hW : Below w.heap.size w W) => checkSet_any z W (hok.later hW (Nat.le_refl _)))
  have HRS := hid (fun W (hW : Below w.heap.size w W) => rcheckSet_any z W (hok.later hW (Nat.le_refl _)))
  have HG := hid hok.gates
  have hgl := hok.glen.2
  clear hok
  obtain ⟨ga, gs, gc, ps, ra, rs, rc⟩ := z
  dsimp only at HS HRS HG hgl ⊢
  obtain ⟨f1, f2, f3, hf⟩ : ∃ x y z, setP gs rs = (x, y, z) := ⟨_, _, _, rfl⟩
  rw [hf] at HS HRS
  clear hf
  dsimp only at HS HRS
  obtain ⟨n, hn⟩ : ∃ n, gs.length = n := ⟨_, rfl⟩
  generalize rs.length = m at *
  rw [hn] at HS HRS hgl ⊢
  have HN := hid hn
  clear hn
  have q1 : (f1 != f1) = false := by simp
  have q2 : (f2 != f2) = false := by simp
  have q3 : (f3 != f3) = false := by simp
  have B0 := hid ((Below.refl w.heap.size w).alloc (Nat.le_refl _) (.cells #[.slice ga n gc, .slice ra m rc] 25))
  have S0 : w.heap.size < (w.alloc (.cells #[.slice ga n gc, .slice ra m rc] 25)).heap.size := by simp
  have c0 : (w.alloc (.cells #[.slice ga n gc, .slice ra m rc] 25)).cell? ⟨w.heap.size, 0, none⟩ = some (.slice ga n gc) := by simp [go_sem]
  have c1 : (w.alloc (.cells #[.slice ga n gc, .slice ra m rc] 25)).cell? ⟨w.heap.size, 1, none⟩ = some (.slice ra m rc) := by simp [go_sem]
  go_enter Try.func3, Try.ntmps3
  go_wp2_with fail
  refine (HS.out _ B0.out).mono ?_
  rintro e w1 ⟨rfl, hb⟩
  have B1 := hid (bthen B0.out hb)
  have d0 : w1.cell? ⟨w.heap.size, 0, none⟩ = some (.slice ga n gc) := (hb.cell (p := ⟨w.heap.size, 0, none⟩) S0).trans c0
  have d1 : w1.cell? ⟨w.heap.size, 1, none⟩ = some (.slice ra m rc) := (hb.cell (p := ⟨w.heap.size, 1, none⟩) S0).trans c1
  have S1 : w.heap.size < w1.heap.size := Nat.lt_of_lt_of_le S0 hb.size
  clear c0 c1 S0 hb HS
  go_wp2_with fail
  refine (HRS.out _ B1.out).mono ?_
  rintro e w2 ⟨rfl, hb⟩
  have B2 := hid (bthen B1.out hb)
  have c0 : w2.cell? ⟨w.heap.size, 0, none⟩ = some (.slice ga n gc) := (hb.cell (p := ⟨w.heap.size, 0, none⟩) S1).trans d0
  have S2 : w.heap.size < w2.heap.size := Nat.lt_of_lt_of_le S1 hb.size
  clear d0 d1 S1 hb HRS
  go_wp2_with fail
  go_loopw [9] (fun iv wr => ∃ i : Nat, i ≤ n ∧ i ≤ 10 ∧ iv = .int .i64 i ∧ Hid (Below w2.heap.size w2 wr)) (fun iv _ => n - (intOf iv).toNat)
  case atStart => exact ⟨0, Nat.zero_le _, by omega, rfl, hid (Below.refl _ _)⟩
  case round =>
    obtain ⟨i, hi, hi10, rfl, hbw⟩ := hrel
    have BW := hid (bthen B2.out hbw.out)
    have d0 : wr.cell? ⟨w.heap.size, 0, none⟩ = some (.slice ga n gc) := (hbw.out.cell (p := ⟨w.heap.size, 0, none⟩) S2).trans c0
    have S3 : w.heap.size < wr.heap.size := Nat.lt_of_lt_of_le S2 hbw.out.size
    clear c0
    by_cases hlt : i < n
    · have hiI : (i : Int) < (n : Int) := by omega
      have hi0 : (0 : Int) ≤ (i : Int) := Int.natCast_nonneg _
      by_cases h10 : i < 10
      · have h10I : (i : Int) < 10 := by omega
        have hig : i < gs.length := by rw [HN.out]; exact hlt
        obtain ⟨b, o, ea, hb0, hat⟩ := HG.out.at_.row (by omega)
        have R := range_later (hat i hig) BW.out hb0
        have hbr : b < wr.heap.size := Nat.lt_of_lt_of_le hb0 BW.out.size
        have HOk := hid (fun W (hW : Below w.heap.size w W) => (HG.out.ok i hig).later hW (Nat.le_refl _))
        subst ea
        generalize gs[i] = g at *
        obtain ⟨p, hp⟩ : ∃ p, ps i = p := ⟨_, rfl⟩
        rw [hp] at R HOk
        have HCk := hid (fun W (hW : Below w.heap.size w W) => check_any g p W (HOk.out W hW))
        have HRk := hid (fun W (hW : Below w.heap.size w W) => rcheck_any g p W (HOk.out W hW))
        obtain ⟨k1, k2, k3, hk⟩ : ∃ x y z, gtP g = (x, y, z) := ⟨_, _, _, rfl⟩
        rw [hk] at HCk HRk
        dsimp only at HCk HRk
        have p1 : (k1 != k1) = false := by simp
        have p2 : (k2 != k2) = false := by simp
        have p3 : (k3 != k3) = false := by simp
        have vi : IntKind.i64.wrap ((i : Int) + 1) = ((i + 1 : Nat) : Int) := by rw [IntWalk.i64_in _ (by omega)]; omega
        clear hat hk hp hb0 hig HOk
        go_wp2_with (refine wpList_load_mid rfl 33 _ rfl b (o + i * 21) rfl (gtL g p) _ R Try.underlying33 rfl (by kernel_rfl) ?_)
        refine (HCk.out _ BW.out).mono ?_
        rintro e w3 ⟨rfl, hb⟩
        have B3 := hid (bthen BW.out hb)
        have BN3 := hid (bthen hbw.out hb)
        have e0 : w3.cell? ⟨w.heap.size, 0, none⟩ = some (.slice (some ⟨b, o, none⟩) n gc) := (hb.cell (p := ⟨w.heap.size, 0, none⟩) S3).trans d0
        have R2 := range_later R hb hbr
        clear R d0 hb hbw
        go_wp2_with (refine wpList_load_mid rfl 33 _ rfl b (o + i * 21) rfl (gtL g p) _ R2 Try.underlying33 rfl (by kernel_rfl) ?_)
        refine (HRk.out _ B3.out).mono ?_
        rintro e w4 ⟨rfl, hb⟩
        have BN4 := hid (bthen BN3.out hb)
        clear R2 e0 hb
        go_wp2_with fail
        exact ⟨⟨i + 1, by omega, by omega, by go_num, BN4⟩, by simp [intOf]; omega⟩
      · have h10I : ¬ (i : Int) < 10 := by omega
        go_wp2_with fail
        refine (awake_any _).mono ?_
        rintro e w9 ⟨rfl, hb9⟩
        go_wp2_with fail
        go_ret
        exact ⟨rfl, bthen BW.out hb9⟩
    · have hjj : ¬ ((i : Int) < (n : Int)) := by omega
      go_wp2_with fail
      refine (awake_any _).mono ?_
      rintro e w9 ⟨rfl, hb9⟩
      go_wp2_with fail
      go_ret
      exact ⟨rfl, bthen BW.out hb9⟩
end Go.Proofs.Ytdoklolinbmhpaa
