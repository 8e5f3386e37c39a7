/- Gate, part CA: the reference's small functions, and own. -/
import Derived.Test.YtdoklolinbmhpaaGreatUC
import Derived.Test.YtdoklolinbmhpaaGreatLA
import Derived.BigQuiet
import Derived.Test.YtdoklolinbmhpaaGreatWB
import Derived.OwnWalk
set_option linter.all false
namespace Go.Proofs.YtdoklolinbmhpaaGreat
open Go.RowKit

theorem rin3 (x lo hi : Int) (w : World) :
    Calls Tryz.prog 64 #[.int .i64 x, .int .i64 lo, .int .i64 hi] w fun e w' => e = .returned (.bool (inB x lo hi)) ∧ w = w' := by
  by_cases h1 : lo ≤ x <;> by_cases h2 : x ≤ hi
  all_goals
    have h : inB x lo hi = decide (lo ≤ x ∧ x ≤ hi) := rfl
    simp only [h1, h2, and_self, and_true, and_false, decide_true, decide_false] at h
    have H := hid h; clear h
    go_enter Tryz.func64, Tryz.ntmps64
    go_wp2
    go_ret
    exact ⟨by rw [H.out]; simp [*], rfl⟩
theorem rlevel3 (x : Int) (w : World) :
    Calls Tryz.prog 66 #[.int .i64 x] w fun e w' => e = .returned (.bool (inB x (-20000) 20000)) ∧ w = w' := by
  go_enter Tryz.func66, Tryz.ntmps66
  go_wp2_with (go_at_call 64; refine (rin3 _ _ _ _).mono ?_; rintro e w' ⟨rfl, rfl⟩)
  go_ret
  exact ⟨rfl, rfl⟩
theorem rforce3 (x : Int) (w : World) :
    Calls Tryz.prog 68 #[.int .i64 x] w fun e w' => e = .returned (.bool (inB x 0 200000)) ∧ w = w' := by
  go_enter Tryz.func68, Tryz.ntmps68
  go_wp2_with (go_at_call 64; refine (rin3 _ _ _ _).mono ?_; rintro e w' ⟨rfl, rfl⟩)
  go_ret
  exact ⟨rfl, rfl⟩
theorem rrate3 (x : Int) (w : World) :
    Calls Tryz.prog 67 #[.int .i64 x] w fun e w' => e = .returned (.bool (inB x 0 10000)) ∧ w = w' := by
  go_enter Tryz.func67, Tryz.ntmps67
  go_wp2_with (go_at_call 64; refine (rin3 _ _ _ _).mono ?_; rintro e w' ⟨rfl, rfl⟩)
  go_ret
  exact ⟨rfl, rfl⟩
theorem roil3 (x : Int) (w : World) :
    Calls Tryz.prog 69 #[.int .i64 x] w fun e w' => e = .returned (.bool (inB x 0 100000)) ∧ w = w' := by
  go_enter Tryz.func69, Tryz.ntmps69
  go_wp2_with (go_at_call 64; refine (rin3 _ _ _ _).mono ?_; rintro e w' ⟨rfl, rfl⟩)
  go_ret
  exact ⟨rfl, rfl⟩
theorem each_zero {f : Nat → Int} : ∀ {n k : Nat}, (eachP f k n).2 = 0 → eachP f k n = (0, 0)
  | 0, k, _ => rfl
  | n + 1, k, h => by
    unfold eachP at h ⊢
    by_cases hf : f k = 0
    · rw [if_neg (by simp [hf])] at h ⊢; exact each_zero h
    · rw [if_pos hf] at h; exact absurd h hf
theorem ownP_eq (g : Gt) : ownP g = if inB g.own.length 2 16 = false then (0, 3) else eachP (ownE g) 0 g.own.length := by
  unfold ownP
  cases h : inB g.own.length 2 16
  · simp [firstAt, mustP]
  · simp only [Bool.true_eq_false, if_false]
    by_cases e : (eachP (ownE g) 0 g.own.length).2 = 0
    · have := each_zero e
      rw [this]; simp [firstAt, mustP]
    · obtain ⟨a, b, hab⟩ : ∃ a b, eachP (ownE g) 0 g.own.length = (a, b) := ⟨_, _, rfl⟩
      rw [hab] at e ⊢
      simp only at e
      simp [firstAt, mustP, e]
set_option maxRecDepth 100000 in
set_option maxHeartbeats 4000000 in
theorem rown_any (g : Gt) (p : GtP) (w : World) (hok : GtOk w p g) (hk : 1 ≤ g.kind ∧ g.kind ≤ 3) :
    Calls Tryz.prog 65 #[.agg (gtL g p).toArray] w fun e w' => e = .returned (.tuple #[.int .i64 (ownP g).1, .int .i64 (ownP g).2]) ∧ Below w.heap.size w w' := by
  have HE := hid (ownP_eq g)
  have R := range_alloc w (gtL g p) 25
  have B1 : Below w.heap.size w (w.alloc (.cells (gtL g p).toArray 25)) := (Below.refl _ _).alloc (Nat.le_refl _) _
  have c1 := range_cell R (show (gtL g p)[1]? = some (.int .i64 g.kind) from rfl)
  have c3 := range_cell R (show (gtL g p)[3]? = some (.slice p.oa g.own.length p.oc) from rfl)
  have HO := hid (hok.later B1 (Nat.le_refl _)).own
  have hwf := hid hok.wf
  clear hok R
  obtain ⟨n, hn⟩ : ∃ n, g.own.length = n := ⟨_, rfl⟩
  rw [hn] at HE c3
  have HN := hid hn
  clear hn
  go_enter Tryz.func65, Tryz.ntmps65
  cases hi : inB n 2 16
  · go_wp2_with (go_at_call 64; refine (rin3 _ _ _ _).mono ?_; rintro e w' ⟨rfl, rfl⟩)
    generalize World.alloc w _ = W1 at *
    go_ret2
    exact ⟨ret_two (by rw [HE.out, hi]; rfl) (by rw [HE.out, hi]; rfl), B1⟩
  · have HI := hid hi
    have hb := inB_iff.1 hi
    rw [hi, if_neg (by simp)] at HE
    clear hi
    have HB := hid (show 2 ≤ n ∧ n ≤ 16 by omega)
    clear hb
    have HT : Hid (inB (n : Int) 2 16 = true) := HI
    obtain ⟨q, hq⟩ : ∃ q, inB (n : Int) 2 16 = q := ⟨_, rfl⟩
    have hqt : q = true := hq.symm.trans HI.out
    have HQ := hid hq
    clear hq
    subst hqt
    go_wp2_with (go_at_call 64; refine (rin3 _ _ _ _).mono ?_; rintro e w' ⟨rfl, rfl⟩; rw [HI.out])
    generalize World.alloc w _ = W1 at *
    go_loopw [4] (fun iv wr => ∃ i : Nat, i ≤ n ∧ iv = .int .i64 i ∧ Hid (eachP (ownE g) 0 n = eachP (ownE g) i (n - i)) ∧ wr = W1) (fun iv _ => n - (intOf iv).toNat)
    case atStart => exact ⟨0, Nat.zero_le _, rfl, hid rfl, rfl⟩
    case round =>
      obtain ⟨i, hi, rfl, HL, rfl⟩ := hrel
      by_cases hlt : i < n
      · have hig : i < g.own.length := by rw [HN.out]; exact hlt
        obtain ⟨b, o, ea, hb0, hc⟩ : ∃ b o, p.oa = some ⟨b, o, none⟩ ∧ b < wr.heap.size ∧ ∀ i (h : i < g.own.length), wr.cell? ⟨b, o + i, none⟩ = some (.int .i64 g.own[i]) := by
          rcases HO.out with h | h
          · rw [h] at hig; simp at hig
          · exact h
        have ck := hc i hig
        have HX := hid (show ownE g i = if inB g.own[i] (-200000) 200000 = false then 7 else if suitsB g.kind g.own[i] = false then 2 else 0 by unfold ownE; simp [List.getD, hig])
        obtain ⟨x, hx⟩ : ∃ x, g.own[i] = x := ⟨_, rfl⟩
        rw [hx] at ck HX
        rw [ea] at c3 ⊢
        have hiI : (i : Int) < (n : Int) := by omega
        have hi0 : (0 : Int) ≤ (i : Int) := Int.natCast_nonneg _
        have vi : IntKind.i64.wrap ((i : Int) + 1) = ((i + 1 : Nat) : Int) := by rw [IntWalk.i64_in _ (by have := HB.out; omega)]; omega
        clear hc hx hig hb0 ea
        obtain ⟨y, hy⟩ : ∃ y, inB x (-200000) 200000 = y := ⟨_, rfl⟩
        have HY := hid hy
        rw [hy] at HX
        clear hy
        cases y
        · have HF := hid (show eachP (ownE g) i (n - i) = ((i : Int), 7) by rw [eachP_yes hlt (by rw [HX.out]; simp), HX.out]; rfl)
          clear HX hlt
          go_wp2_with (go_at_call 64; refine (rin3 _ _ _ _).mono ?_; rintro e w' ⟨rfl, rfl⟩; rw [HY.out])
          go_ret2
          exact ⟨ret_two (by rw [HE.out, HL.out, HF.out]) (by rw [HE.out, HL.out, HF.out]), B1⟩
        · rw [if_neg (by simp)] at HX
          by_cases hs : suitsB g.kind x = true
          · have HF := hid (show eachP (ownE g) i (n - i) = eachP (ownE g) (i + 1) (n - (i + 1)) from eachP_no hlt (by rw [HX.out, hs]; rfl))
            rcases (show (g.kind = 1 ∧ x = 0) ∨ (g.kind = 2 ∧ 0 ≤ x) ∨ (g.kind = 3 ∧ x ≤ 0) by
              unfold suitsB at hs
              rcases (show g.kind = 1 ∨ g.kind = 2 ∨ g.kind = 3 by omega) with h | h | h
              · rw [h] at hs; simp at hs; exact .inl ⟨h, hs⟩
              · rw [h] at hs; simp at hs; exact .inr (.inl ⟨h, hs⟩)
              · rw [h] at hs; simp at hs; exact .inr (.inr ⟨h, hs⟩)) with ⟨h1, h2⟩ | ⟨h1, h2⟩ | ⟨h1, h2⟩
            · have e1 : (x != 0) = false := by simp [h2]
              have k1 : (g.kind == 1) = true := by rw [h1]; rfl
              have k2 : (g.kind == 2) = false := by rw [h1]; rfl
              have k3 : (g.kind == 3) = false := by rw [h1]; rfl
              clear h1 h2 hs HX
              go_wp2_with (go_at_call 64; refine (rin3 _ _ _ _).mono ?_; rintro e w' ⟨rfl, rfl⟩; rw [HY.out])
              exact ⟨⟨i + 1, by omega, by go_num, hid (HL.out.trans HF.out), trivial⟩, by simp [intOf]; omega⟩
            · have e1 : decide (x < 0) = false := by simp; omega
              have k1 : (g.kind == 1) = false := by rw [h1]; rfl
              have k2 : (g.kind == 2) = true := by rw [h1]; rfl
              have k3 : (g.kind == 3) = false := by rw [h1]; rfl
              clear h1 h2 hs HX 
              go_wp2_with (go_at_call 64; refine (rin3 _ _ _ _).mono ?_; rintro e w' ⟨rfl, rfl⟩; rw [HY.out])
              exact ⟨⟨i + 1, by omega, by go_num, hid (HL.out.trans HF.out), trivial⟩, by simp [intOf]; omega⟩
            · have e1 : decide (0 < x) = false := by simp; omega
              have k1 : (g.kind == 1) = false := by rw [h1]; rfl
              have k2 : (g.kind == 2) = false := by rw [h1]; rfl
              have k3 : (g.kind == 3) = true := by rw [h1]; rfl
              clear h1 h2 hs HX 
              go_wp2_with (go_at_call 64; refine (rin3 _ _ _ _).mono ?_; rintro e w' ⟨rfl, rfl⟩; rw [HY.out])
              exact ⟨⟨i + 1, by omega, by go_num, hid (HL.out.trans HF.out), trivial⟩, by simp [intOf]; omega⟩
          · rcases (show (g.kind = 1 ∧ x ≠ 0) ∨ (g.kind = 2 ∧ x < 0) ∨ (g.kind = 3 ∧ 0 < x) by
              unfold suitsB at hs
              rcases (show g.kind = 1 ∨ g.kind = 2 ∨ g.kind = 3 by omega) with h | h | h
              · rw [h] at hs; simp at hs; exact .inl ⟨h, hs⟩
              · rw [h] at hs; simp at hs; exact .inr (.inl ⟨h, hs⟩)
              · rw [h] at hs; simp at hs; exact .inr (.inr ⟨h, hs⟩)) with ⟨h1, h2⟩ | ⟨h1, h2⟩ | ⟨h1, h2⟩
            · have e1 : (x != 0) = true := by simp [h2]
              have k1 : (g.kind == 1) = true := by rw [h1]; rfl
              have k2 : (g.kind == 2) = false := by rw [h1]; rfl
              have k3 : (g.kind == 3) = false := by rw [h1]; rfl
              have HF := hid (show eachP (ownE g) i (n - i) = ((i : Int), 2) by rw [eachP_yes hlt (by rw [HX.out, if_pos (by simpa using hs)]; simp), HX.out, if_pos (by simpa using hs)])
              clear h1 h2 hs HX hlt
              go_wp2_with (go_at_call 64; refine (rin3 _ _ _ _).mono ?_; rintro e w' ⟨rfl, rfl⟩; rw [HY.out])
              go_ret2
              exact ⟨ret_two (by rw [HE.out, HL.out, HF.out]) (by rw [HE.out, HL.out, HF.out]), B1⟩
            · have e1 : decide (x < 0) = true := by simp [h2]
              have k1 : (g.kind == 1) = false := by rw [h1]; rfl
              have k2 : (g.kind == 2) = true := by rw [h1]; rfl
              have k3 : (g.kind == 3) = false := by rw [h1]; rfl
              have HF := hid (show eachP (ownE g) i (n - i) = ((i : Int), 2) by rw [eachP_yes hlt (by rw [HX.out, if_pos (by simpa using hs)]; simp), HX.out, if_pos (by simpa using hs)])
              clear h1 h2 hs HX hlt
              go_wp2_with (go_at_call 64; refine (rin3 _ _ _ _).mono ?_; rintro e w' ⟨rfl, rfl⟩; rw [HY.out])
              go_ret2
              exact ⟨ret_two (by rw [HE.out, HL.out, HF.out]) (by rw [HE.out, HL.out, HF.out]), B1⟩
            · have e1 : decide (0 < x) = true := by simp [h2]
              have k1 : (g.kind == 1) = false := by rw [h1]; rfl
              have k2 : (g.kind == 2) = false := by rw [h1]; rfl
              have k3 : (g.kind == 3) = true := by rw [h1]; rfl
              have HF := hid (show eachP (ownE g) i (n - i) = ((i : Int), 2) by rw [eachP_yes hlt (by rw [HX.out, if_pos (by simpa using hs)]; simp), HX.out, if_pos (by simpa using hs)])
              clear h1 h2 hs HX hlt
              go_wp2_with (go_at_call 64; refine (rin3 _ _ _ _).mono ?_; rintro e w' ⟨rfl, rfl⟩; rw [HY.out])
              go_ret2
              exact ⟨ret_two (by rw [HE.out, HL.out, HF.out]) (by rw [HE.out, HL.out, HF.out]), B1⟩
      · obtain rfl : i = n := by omega
        have hjj : ¬ ((i : Int) < (i : Int)) := by omega
        go_wp2_with fail
        go_ret2
        exact ⟨ret_two (by rw [HE.out, HL.out, Nat.sub_self]; rfl) (by rw [HE.out, HL.out, Nat.sub_self]; rfl), B1⟩
end Go.Proofs.YtdoklolinbmhpaaGreat

set_option linter.all false
namespace Go.Proofs.YtdoklolinbmhpaaGreat
open Go.RowKit

theorem senP_eq (g : Gt) : senP g = if ¬ ((g.ss.length : Int) ≤ 6) then (0, 3) else if (eachP (fun i => senE (g.ss.getD i default)) 0 g.ss.length).2 ≠ 0 then eachP (fun i => senE (g.ss.getD i default)) 0 g.ss.length else if inB g.wrong 0 g.ss.length = false then (0, 7) else (0, 0) := by
  unfold senP
  generalize eachP (fun i => senE (g.ss.getD i default)) 0 g.ss.length = x
  obtain ⟨a, b⟩ := x
  by_cases h : (g.ss.length : Int) ≤ 6
  · by_cases e : b = 0
    · cases hw : inB g.wrong 0 g.ss.length <;> simp [firstAt, mustP, h, e]
    · simp [firstAt, mustP, h, e]
  · simp [firstAt, mustP, h]
set_option maxRecDepth 100000 in
set_option maxHeartbeats 4000000 in
theorem rsensors_any (g : Gt) (p : GtP) (w : World) (hok : GtOk w p g) :
    Calls Tryz.prog 70 #[.agg (gtL g p).toArray] w fun e w' => e = .returned (.tuple #[.int .i64 (senP g).1, .int .i64 (senP g).2]) ∧ Below w.heap.size w w' := by
  have HE := hid (senP_eq g)
  have R := range_alloc w (gtL g p) 25
  have B1 : Below w.heap.size w (w.alloc (.cells (gtL g p).toArray 25)) := (Below.refl _ _).alloc (Nat.le_refl _) _
  have S1 : w.heap.size < (w.alloc (.cells (gtL g p).toArray 25)).heap.size := by simp
  have c19 := range_cell R (show (gtL g p)[19]? = some (.slice p.sa g.ss.length p.sc) from rfl)
  have c20 := range_cell R (show (gtL g p)[20]? = some (.int .i64 g.wrong) from rfl)
  have HO := hid (hok.later B1 (Nat.le_refl _)).ss
  clear hok R
  obtain ⟨n, hn⟩ : ∃ n, g.ss.length = n := ⟨_, rfl⟩
  obtain ⟨f, hf⟩ : ∃ f : Nat → Int, (fun i => senE (g.ss.getD i default)) = f := ⟨_, rfl⟩
  rw [hn, hf] at HE
  rw [hn] at c19
  have HN := hid hn
  have HF := hid hf
  clear hn hf
  go_enter Tryz.func70, Tryz.ntmps70
  by_cases h6 : n ≤ 6
  · have H6 := hid h6
    have z6 : decide (6 < (n : Int)) = false := by simp; omega
    rw [if_neg (by omega)] at HE
    clear h6
    go_wp2_with fail
    generalize World.alloc w _ = W1 at *
    go_loopw [4] (fun iv wr => ∃ i : Nat, i ≤ n ∧ iv = .int .i64 i ∧ Hid (eachP f 0 n = eachP f i (n - i)) ∧ Hid (Below W1.heap.size W1 wr)) (fun iv _ => n - (intOf iv).toNat)
    case atStart => exact ⟨0, Nat.zero_le _, rfl, hid rfl, hid (Below.refl _ _)⟩
    case round =>
      obtain ⟨i, hi, rfl, HL, hbw⟩ := hrel
      have BW := hid (bthen B1 hbw.out)
      have d19 : wr.cell? ⟨w.heap.size, 19, none⟩ = some (.slice p.sa n p.sc) := (hbw.out.cell (p := ⟨w.heap.size, 19, none⟩) S1).trans c19
      have d20 : wr.cell? ⟨w.heap.size, 20, none⟩ = some (.int .i64 g.wrong) := (hbw.out.cell (p := ⟨w.heap.size, 20, none⟩) S1).trans c20
      have S2 : w.heap.size < wr.heap.size := Nat.lt_of_lt_of_le S1 hbw.out.size
      by_cases hlt : i < n
      · have hig : i < g.ss.length := by rw [HN.out]; exact hlt
        obtain ⟨b, o, ea, hb0, hc⟩ := HO.out.row (by omega)
        have Rs := range_later (hc i hig) hbw.out hb0
        have HX := hid (show f i = senE g.ss[i] by rw [← HF.out]; simp [List.getD, hig])
        generalize g.ss[i] = s at *
        rw [ea] at d19 ⊢
        have s0 : wr.cell? ⟨b, o + i * 3, none⟩ = some (.int .i64 s.kind) := by simpa using Rs 0 _ (show (senL s)[0]? = some (.int .i64 s.kind) from rfl)
        have s1 : wr.cell? ⟨b, o + i * 3 + 1, none⟩ = some (.int .i64 s.at_) := Rs 1 _ rfl
        have s2 : wr.cell? ⟨b, o + i * 3 + 2, none⟩ = some (.int .i64 s.tol) := Rs 2 _ rfl
        have hiI : (i : Int) < (n : Int) := by omega
        have hi0 : (0 : Int) ≤ (i : Int) := Int.natCast_nonneg _
        have vi : IntKind.i64.wrap ((i : Int) + 1) = ((i + 1 : Nat) : Int) := by rw [IntWalk.i64_in _ (by have := H6.out; omega)]; omega
        have HBn := hid (hbw.out.trans ((((Below.refl wr.heap.size wr).alloc (Nat.le_refl _) (.cells #[.int .i64 s.kind, .int .i64 s.at_, .int .i64 s.tol] 121))).mono hbw.out.size))
        have HBf := hid (bthen BW.out (((Below.refl wr.heap.size wr).alloc (Nat.le_refl _) (.cells #[.int .i64 s.kind, .int .i64 s.at_, .int .i64 s.tol] 121))))
        clear hc hig hb0 ea Rs hbw
        have HS := hid (show senE s = if inB s.kind 1 2 = false ∨ (s.kind = 1 ∧ s.at_ ≠ 0) then 2 else if inB s.at_ 0 5000 = false ∨ inB s.tol 0 5000 = false then 7 else 0 from rfl)
        cases i1 : inB s.kind 1 2
        · skip
          have HG := hid (show eachP f i (n - i) = ((i : Int), 2) by rw [eachP_yes hlt (by rw [HX.out, HS.out, if_pos (.inl i1)]; simp), HX.out, HS.out, if_pos (.inl i1)])
          clear hlt
          go_wp2_with (go_at_call 64; refine (rin3 _ _ _ _).mono ?_; rintro e w' ⟨rfl, rfl⟩)
          go_ret2
          exact ⟨ret_two (by rw [HE.out, HL.out, HG.out, if_pos (by simp)]) (by rw [HE.out, HL.out, HG.out, if_pos (by simp)]), HBf.out⟩
        · by_cases hb : s.kind = 1 ∧ s.at_ ≠ 0
          · have k1 : (s.kind == 1) = true := by rw [hb.1]; rfl
            have a1 : (s.at_ != 0) = true := by simp [hb.2]
            have HG := hid (show eachP f i (n - i) = ((i : Int), 2) by rw [eachP_yes hlt (by rw [HX.out, HS.out, if_pos (.inr hb)]; simp), HX.out, HS.out, if_pos (.inr hb)])
            clear hlt hb
            go_wp2_with (go_at_call 64; refine (rin3 _ _ _ _).mono ?_; rintro e w' ⟨rfl, rfl⟩)
            go_ret2
            exact ⟨ret_two (by rw [HE.out, HL.out, HG.out, if_pos (by simp)]) (by rw [HE.out, HL.out, HG.out, if_pos (by simp)]), HBf.out⟩
          · have hno : ¬ (inB s.kind 1 2 = false ∨ (s.kind = 1 ∧ s.at_ ≠ 0)) := by rw [i1]; simpa using hb
            rw [if_neg hno] at HS
            by_cases hk : s.kind = 1
            · have k1 : (s.kind == 1) = true := by rw [hk]; rfl
              have a1 : (s.at_ != 0) = false := by
                have : s.at_ = 0 := Classical.byContradiction fun h => hb ⟨hk, h⟩
                simp [this]
              clear hb hno hk
              cases i2 : inB s.at_ 0 5000
              · skip
                have HG := hid (show eachP f i (n - i) = ((i : Int), 7) by rw [eachP_yes hlt (by rw [HX.out, HS.out, if_pos (.inl i2)]; simp), HX.out, HS.out, if_pos (.inl i2)])
                clear hlt
                go_wp2_with (go_at_call 64; refine (rin3 _ _ _ _).mono ?_; rintro e w' ⟨rfl, rfl⟩)
                go_ret2
                exact ⟨ret_two (by rw [HE.out, HL.out, HG.out, if_pos (by simp)]) (by rw [HE.out, HL.out, HG.out, if_pos (by simp)]), HBf.out⟩
              · cases i3 : inB s.tol 0 5000
                · skip
                  have HG := hid (show eachP f i (n - i) = ((i : Int), 7) by rw [eachP_yes hlt (by rw [HX.out, HS.out, if_pos (.inr i3)]; simp), HX.out, HS.out, if_pos (.inr i3)])
                  clear hlt
                  go_wp2_with (go_at_call 64; refine (rin3 _ _ _ _).mono ?_; rintro e w' ⟨rfl, rfl⟩)
                  go_ret2
                  exact ⟨ret_two (by rw [HE.out, HL.out, HG.out, if_pos (by simp)]) (by rw [HE.out, HL.out, HG.out, if_pos (by simp)]), HBf.out⟩
                · skip
                  have HG := hid (show eachP f i (n - i) = eachP f (i + 1) (n - (i + 1)) from eachP_no hlt (by rw [HX.out, HS.out, if_neg (by rw [i2, i3]; simp)]))
                  clear hlt
                  go_wp2_with (go_at_call 64; refine (rin3 _ _ _ _).mono ?_; rintro e w' ⟨rfl, rfl⟩)
                  exact ⟨⟨i + 1, by omega, by go_num, hid (HL.out.trans HG.out), HBn⟩, by simp [intOf]; omega⟩
            · have k1 : (s.kind == 1) = false := by simp [hk]
              clear hb hno hk
              cases i2 : inB s.at_ 0 5000
              · skip
                have HG := hid (show eachP f i (n - i) = ((i : Int), 7) by rw [eachP_yes hlt (by rw [HX.out, HS.out, if_pos (.inl i2)]; simp), HX.out, HS.out, if_pos (.inl i2)])
                clear hlt
                go_wp2_with (go_at_call 64; refine (rin3 _ _ _ _).mono ?_; rintro e w' ⟨rfl, rfl⟩)
                go_ret2
                exact ⟨ret_two (by rw [HE.out, HL.out, HG.out, if_pos (by simp)]) (by rw [HE.out, HL.out, HG.out, if_pos (by simp)]), HBf.out⟩
              · cases i3 : inB s.tol 0 5000
                · skip
                  have HG := hid (show eachP f i (n - i) = ((i : Int), 7) by rw [eachP_yes hlt (by rw [HX.out, HS.out, if_pos (.inr i3)]; simp), HX.out, HS.out, if_pos (.inr i3)])
                  clear hlt
                  go_wp2_with (go_at_call 64; refine (rin3 _ _ _ _).mono ?_; rintro e w' ⟨rfl, rfl⟩)
                  go_ret2
                  exact ⟨ret_two (by rw [HE.out, HL.out, HG.out, if_pos (by simp)]) (by rw [HE.out, HL.out, HG.out, if_pos (by simp)]), HBf.out⟩
                · skip
                  have HG := hid (show eachP f i (n - i) = eachP f (i + 1) (n - (i + 1)) from eachP_no hlt (by rw [HX.out, HS.out, if_neg (by rw [i2, i3]; simp)]))
                  clear hlt
                  go_wp2_with (go_at_call 64; refine (rin3 _ _ _ _).mono ?_; rintro e w' ⟨rfl, rfl⟩)
                  exact ⟨⟨i + 1, by omega, by go_num, hid (HL.out.trans HG.out), HBn⟩, by simp [intOf]; omega⟩
      · obtain rfl : i = n := by omega
        have hjj : ¬ ((i : Int) < (i : Int)) := by omega
        have e0 : eachP f 0 i = (0, 0) := by rw [HL.out, Nat.sub_self]; rfl
        rw [e0, if_neg (by simp)] at HE
        clear e0 hlt
        cases i1 : inB g.wrong 0 (i : Int)
        · rw [i1, if_pos rfl] at HE
          go_wp2_with (go_at_call 64; refine (rin3 _ _ _ _).mono ?_; rintro e w' ⟨rfl, rfl⟩)
          go_ret2
          exact ⟨ret_two (by rw [HE.out]) (by rw [HE.out]), BW.out⟩
        · rw [i1, if_neg (by simp)] at HE
          go_wp2_with (go_at_call 64; refine (rin3 _ _ _ _).mono ?_; rintro e w' ⟨rfl, rfl⟩)
          go_ret2
          exact ⟨ret_two (by rw [HE.out]) (by rw [HE.out]), BW.out⟩
  · have z6 : decide (6 < (n : Int)) = true := by simp; omega
    rw [if_pos (by omega)] at HE
    clear h6
    go_wp2_with fail
    go_ret2
    exact ⟨ret_two (by rw [HE.out]) (by rw [HE.out]), B1⟩
end Go.Proofs.YtdoklolinbmhpaaGreat

set_option linter.all false
namespace Go.Proofs.YtdoklolinbmhpaaGreat
open Go.RowKit

theorem gtP_eq (g : Gt) : gtP g = if headE g ≠ 0 then (1, 0, headE g) else if (ownP g).2 ≠ 0 then (2, (ownP g).1, (ownP g).2) else if numE g ≠ 0 then (3, 0, numE g) else if (senP g).2 ≠ 0 then (4, (senP g).1, (senP g).2) else (0, 0, 0) := by
  unfold gtP
  generalize ownP g = x
  generalize senP g = y
  obtain ⟨a, b⟩ := x
  obtain ⟨c, d⟩ := y
  by_cases h1 : headE g = 0
  · by_cases h2 : b = 0
    · by_cases h3 : numE g = 0
      · by_cases h4 : d = 0 <;> simp [firstAt, h1, h2, h3, h4]
      · simp [firstAt, h1, h2, h3]
    · simp [firstAt, h1, h2]
  · simp [firstAt, h1]
theorem ret_thr {a b c : Int} {x : Int × Int × Int} (h : x = (a, b, c)) : Ending.returned (.tuple #[.int .i64 a, .int .i64 b, .int .i64 c]) = Ending.returned (.tuple #[.int .i64 x.1, .int .i64 x.2.1, .int .i64 x.2.2]) := by rw [h]
set_option maxRecDepth 100000 in
set_option maxHeartbeats 16000000 in
theorem rcheck_any (g : Gt) (p : GtP) (w : World) (hok : GtOk w p g) :
    Calls Tryz.prog 29 #[.agg (gtL g p).toArray] w fun e w' => e = .returned (.tuple #[.int .i64 (gtP g).1, .int .i64 (gtP g).2.1, .int .i64 (gtP g).2.2]) ∧ Below w.heap.size w w' := by
  have HE := hid (gtP_eq g)
  have HHd := hid (show headE g = if nameB g.name.data.toList = false then 6 else if inB g.kind 1 3 = false then 2 else if inB g.travel 1 5000 = false then 7 else 0 from rfl)
  have R := range_alloc w (gtL g p) 25
  have B1 : Below w.heap.size w (w.alloc (.cells (gtL g p).toArray 25)) := (Below.refl _ _).alloc (Nat.le_refl _) _
  have S1 : w.heap.size < (w.alloc (.cells (gtL g p).toArray 25)).heap.size := by simp
  have c0 := range_cell R (show (gtL g p)[0]? = some (.string g.name) from rfl)
  have c1 := range_cell R (show (gtL g p)[1]? = some (.int .i64 g.kind) from rfl)
  have c2 := range_cell R (show (gtL g p)[2]? = some (.int .i64 g.travel) from rfl)
  have HNm := hid hok.wf.name
  have HOk := hid (hok.later B1 (Nat.le_refl _))
  clear hok
  go_enter Tryz.func29, Tryz.ntmps29
  cases n1 : nameB g.name.data.toList
  · have HG := hid (show gtP g = (1, 0, 6) by rw [HE.out, HHd.out, n1]; rfl)
    go_wp2_with (first | (go_at_call 64; refine (rin3 _ _ _ _).mono ?_; rintro e w' ⟨rfl, rfl⟩) | (go_at_call 66; refine (rlevel3 _ _).mono ?_; rintro e w' ⟨rfl, rfl⟩) | (go_at_call 68; refine (rforce3 _ _).mono ?_; rintro e w' ⟨rfl, rfl⟩) | (go_at_call 67; refine (rrate3 _ _).mono ?_; rintro e w' ⟨rfl, rfl⟩) | (go_at_call 69; refine (roil3 _ _).mono ?_; rintro e w' ⟨rfl, rfl⟩) | (go_at_call 63; refine (rname_any _ _ HNm.out).mono ?_; rintro e w' ⟨rfl, rfl⟩))
    go_ret3
    exact ⟨ret_thr HG.out, B1⟩
  · rw [n1, if_neg (by simp)] at HHd
    cases n2 : inB g.kind 1 3
    · have HG := hid (show gtP g = (1, 0, 2) by rw [HE.out, HHd.out, n2]; rfl)
      go_wp2_with (first | (go_at_call 64; refine (rin3 _ _ _ _).mono ?_; rintro e w' ⟨rfl, rfl⟩) | (go_at_call 66; refine (rlevel3 _ _).mono ?_; rintro e w' ⟨rfl, rfl⟩) | (go_at_call 68; refine (rforce3 _ _).mono ?_; rintro e w' ⟨rfl, rfl⟩) | (go_at_call 67; refine (rrate3 _ _).mono ?_; rintro e w' ⟨rfl, rfl⟩) | (go_at_call 69; refine (roil3 _ _).mono ?_; rintro e w' ⟨rfl, rfl⟩) | (go_at_call 63; refine (rname_any _ _ HNm.out).mono ?_; rintro e w' ⟨rfl, rfl⟩))
      go_ret3
      exact ⟨ret_thr HG.out, B1⟩
    · rw [n2, if_neg (by simp)] at HHd
      cases n3 : inB g.travel 1 5000
      · have HG := hid (show gtP g = (1, 0, 7) by rw [HE.out, HHd.out, n3]; rfl)
        go_wp2_with (first | (go_at_call 64; refine (rin3 _ _ _ _).mono ?_; rintro e w' ⟨rfl, rfl⟩) | (go_at_call 66; refine (rlevel3 _ _).mono ?_; rintro e w' ⟨rfl, rfl⟩) | (go_at_call 68; refine (rforce3 _ _).mono ?_; rintro e w' ⟨rfl, rfl⟩) | (go_at_call 67; refine (rrate3 _ _).mono ?_; rintro e w' ⟨rfl, rfl⟩) | (go_at_call 69; refine (roil3 _ _).mono ?_; rintro e w' ⟨rfl, rfl⟩) | (go_at_call 63; refine (rname_any _ _ HNm.out).mono ?_; rintro e w' ⟨rfl, rfl⟩))
        go_ret3
        exact ⟨ret_thr HG.out, B1⟩
      · rw [n3, if_neg (by simp)] at HHd
        rw [HHd.out, if_neg (by simp)] at HE
        have hkd := inB_iff.1 n2
        have htr := inB_iff.1 n3
        have HKd := hid hkd
        have HTr := hid htr
        clear hkd htr
        go_wp2_with (first | (go_at_call 64; refine (rin3 _ _ _ _).mono ?_; rintro e w' ⟨rfl, rfl⟩) | (go_at_call 66; refine (rlevel3 _ _).mono ?_; rintro e w' ⟨rfl, rfl⟩) | (go_at_call 68; refine (rforce3 _ _).mono ?_; rintro e w' ⟨rfl, rfl⟩) | (go_at_call 67; refine (rrate3 _ _).mono ?_; rintro e w' ⟨rfl, rfl⟩) | (go_at_call 69; refine (roil3 _ _).mono ?_; rintro e w' ⟨rfl, rfl⟩) | (go_at_call 63; refine (rname_any _ _ HNm.out).mono ?_; rintro e w' ⟨rfl, rfl⟩) | (refine wpList_load_mid rfl 25 _ rfl _ 0 rfl (gtL g p) _ (R) Tryz.underlying25 rfl (by kernel_rfl) ?_))
        generalize hW1 : World.alloc w _ = W1 at *
        clear hW1
        refine (rown_any g p W1 HOk.out HKd.out).mono ?_
        rintro e w2 ⟨rfl, hb2⟩
        have R2 := range_later R hb2 S1
        have BW := hid (bthen B1 hb2)
        have HOk2 := hid (HOk.out.later hb2 (Nat.le_refl _))
        clear c0 c1 c2 R hb2 HOk B1 S1 n1 n2 n3 HHd
        generalize ownP g = q at *
        obtain ⟨qa, qe⟩ := q
        dsimp only at HE ⊢
        by_cases hq : qe = 0
        · have z : (qe != 0) = false := by simp [hq]
          rw [if_neg (by simp [hq])] at HE
          clear hq
          have c2 := range_cell R2 (show (gtL g p)[2]? = some (.int .i64 g.travel) from rfl)
          have c4 := range_cell R2 (show (gtL g p)[4]? = some (.int .i64 g.open_) from rfl)
          have c5 := range_cell R2 (show (gtL g p)[5]? = some (.int .i64 g.shut) from rfl)
          have c6 := range_cell R2 (show (gtL g p)[6]? = some (.int .i64 g.height) from rfl)
          have c7 := range_cell R2 (show (gtL g p)[7]? = some (.int .i64 g.float) from rfl)
          have c9 := range_cell R2 (show (gtL g p)[9]? = some (.int .i64 g.slide) from rfl)
          have c8 := range_cell R2 (show (gtL g p)[8]? = some (.int .i64 g.push) from rfl)
          have c10 := range_cell R2 (show (gtL g p)[10]? = some (.int .i64 g.sealN) from rfl)
          have c11 := range_cell R2 (show (gtL g p)[11]? = some (.int .i64 g.drive) from rfl)
          have c12 := range_cell R2 (show (gtL g p)[12]? = some (.int .i64 g.brake) from rfl)
          have c13 := range_cell R2 (show (gtL g p)[13]? = some (.int .i64 g.speed) from rfl)
          have c14 := range_cell R2 (show (gtL g p)[14]? = some (.int .i64 g.gravity) from rfl)
          have c15 := range_cell R2 (show (gtL g p)[15]? = some (.int .i64 g.use) from rfl)
          have c16 := range_cell R2 (show (gtL g p)[16]? = some (.int .i64 g.pump) from rfl)
          have c17 := range_cell R2 (show (gtL g p)[17]? = some (.int .i64 g.cap) from rfl)
          have c18 := range_cell R2 (show (gtL g p)[18]? = some (.int .i64 g.slack) from rfl)
          have v1 : IntKind.i64.wrap (g.travel - 1) = g.travel - 1 := IntWalk.i64_in _ (by have := HTr.out; omega)
          have v2 : IntKind.i64.wrap ((g.travel - 1).tdiv 2) = (g.travel - 1).tdiv 2 := by have := half_wrap (g.travel - 1); rw [v1] at this; exact this
          have HNum := hid (show numE g = if inB g.open_ (-20000) 20000 = true ∧ inB g.shut (-20000) 20000 = true ∧ inB g.height 1 30000 = true ∧ inB g.float 0 10000 = true ∧ inB g.slide 0 10000 = true ∧ inB g.push (-10000) 10000 = true ∧ inB g.sealN 0 200000 = true ∧ inB g.drive 0 200000 = true ∧ inB g.brake 0 200000 = true ∧ inB g.speed 1 100 = true ∧ inB g.gravity 1 100 = true ∧ inB g.use 0 100000 = true ∧ inB g.pump 0 100000 = true ∧ inB g.cap 0 100000 = true ∧ inB g.slack 0 ((g.travel - 1).tdiv 2) = true then 0 else 7 by
            unfold numE numB
            rw [v1]
            simp only [Bool.and_eq_true, and_assoc])
          cases i0 : inB g.open_ (-20000) 20000
          · have hN : numE g = 7 := HNum.out.trans (if_neg (by rintro ⟨h0, h1, h2, h3, h4, h5, h6, h7, h8, h9, h10, h11, h12, h13, h14⟩; rw [i0] at h0; cases h0))
            have HG := hid (show gtP g = (3, 0, 7) by rw [HE.out, hN]; rfl)
            clear hN
            clear R2 HNum HE
            go_wp2_with (first | (go_at_call 64; refine (rin3 _ _ _ _).mono ?_; rintro e w' ⟨rfl, rfl⟩) | (go_at_call 66; refine (rlevel3 _ _).mono ?_; rintro e w' ⟨rfl, rfl⟩) | (go_at_call 68; refine (rforce3 _ _).mono ?_; rintro e w' ⟨rfl, rfl⟩) | (go_at_call 67; refine (rrate3 _ _).mono ?_; rintro e w' ⟨rfl, rfl⟩) | (go_at_call 69; refine (roil3 _ _).mono ?_; rintro e w' ⟨rfl, rfl⟩) | (go_at_call 63; refine (rname_any _ _ HNm.out).mono ?_; rintro e w' ⟨rfl, rfl⟩))
            go_ret3
            exact ⟨ret_thr HG.out, BW.out⟩
          · skip
            cases i1 : inB g.shut (-20000) 20000
            · have hN : numE g = 7 := HNum.out.trans (if_neg (by rintro ⟨h0, h1, h2, h3, h4, h5, h6, h7, h8, h9, h10, h11, h12, h13, h14⟩; rw [i1] at h1; cases h1))
              have HG := hid (show gtP g = (3, 0, 7) by rw [HE.out, hN]; rfl)
              clear hN
              clear R2 HNum HE
              go_wp2_with (first | (go_at_call 64; refine (rin3 _ _ _ _).mono ?_; rintro e w' ⟨rfl, rfl⟩) | (go_at_call 66; refine (rlevel3 _ _).mono ?_; rintro e w' ⟨rfl, rfl⟩) | (go_at_call 68; refine (rforce3 _ _).mono ?_; rintro e w' ⟨rfl, rfl⟩) | (go_at_call 67; refine (rrate3 _ _).mono ?_; rintro e w' ⟨rfl, rfl⟩) | (go_at_call 69; refine (roil3 _ _).mono ?_; rintro e w' ⟨rfl, rfl⟩) | (go_at_call 63; refine (rname_any _ _ HNm.out).mono ?_; rintro e w' ⟨rfl, rfl⟩))
              go_ret3
              exact ⟨ret_thr HG.out, BW.out⟩
            · skip
              cases i2 : inB g.height 1 30000
              · have hN : numE g = 7 := HNum.out.trans (if_neg (by rintro ⟨h0, h1, h2, h3, h4, h5, h6, h7, h8, h9, h10, h11, h12, h13, h14⟩; rw [i2] at h2; cases h2))
                have HG := hid (show gtP g = (3, 0, 7) by rw [HE.out, hN]; rfl)
                clear hN
                clear R2 HNum HE
                go_wp2_with (first | (go_at_call 64; refine (rin3 _ _ _ _).mono ?_; rintro e w' ⟨rfl, rfl⟩) | (go_at_call 66; refine (rlevel3 _ _).mono ?_; rintro e w' ⟨rfl, rfl⟩) | (go_at_call 68; refine (rforce3 _ _).mono ?_; rintro e w' ⟨rfl, rfl⟩) | (go_at_call 67; refine (rrate3 _ _).mono ?_; rintro e w' ⟨rfl, rfl⟩) | (go_at_call 69; refine (roil3 _ _).mono ?_; rintro e w' ⟨rfl, rfl⟩) | (go_at_call 63; refine (rname_any _ _ HNm.out).mono ?_; rintro e w' ⟨rfl, rfl⟩))
                go_ret3
                exact ⟨ret_thr HG.out, BW.out⟩
              · skip
                cases i3 : inB g.float 0 10000
                · have hN : numE g = 7 := HNum.out.trans (if_neg (by rintro ⟨h0, h1, h2, h3, h4, h5, h6, h7, h8, h9, h10, h11, h12, h13, h14⟩; rw [i3] at h3; cases h3))
                  have HG := hid (show gtP g = (3, 0, 7) by rw [HE.out, hN]; rfl)
                  clear hN
                  clear R2 HNum HE
                  go_wp2_with (first | (go_at_call 64; refine (rin3 _ _ _ _).mono ?_; rintro e w' ⟨rfl, rfl⟩) | (go_at_call 66; refine (rlevel3 _ _).mono ?_; rintro e w' ⟨rfl, rfl⟩) | (go_at_call 68; refine (rforce3 _ _).mono ?_; rintro e w' ⟨rfl, rfl⟩) | (go_at_call 67; refine (rrate3 _ _).mono ?_; rintro e w' ⟨rfl, rfl⟩) | (go_at_call 69; refine (roil3 _ _).mono ?_; rintro e w' ⟨rfl, rfl⟩) | (go_at_call 63; refine (rname_any _ _ HNm.out).mono ?_; rintro e w' ⟨rfl, rfl⟩))
                  go_ret3
                  exact ⟨ret_thr HG.out, BW.out⟩
                · skip
                  cases i4 : inB g.slide 0 10000
                  · have hN : numE g = 7 := HNum.out.trans (if_neg (by rintro ⟨h0, h1, h2, h3, h4, h5, h6, h7, h8, h9, h10, h11, h12, h13, h14⟩; rw [i4] at h4; cases h4))
                    have HG := hid (show gtP g = (3, 0, 7) by rw [HE.out, hN]; rfl)
                    clear hN
                    clear R2 HNum HE
                    go_wp2_with (first | (go_at_call 64; refine (rin3 _ _ _ _).mono ?_; rintro e w' ⟨rfl, rfl⟩) | (go_at_call 66; refine (rlevel3 _ _).mono ?_; rintro e w' ⟨rfl, rfl⟩) | (go_at_call 68; refine (rforce3 _ _).mono ?_; rintro e w' ⟨rfl, rfl⟩) | (go_at_call 67; refine (rrate3 _ _).mono ?_; rintro e w' ⟨rfl, rfl⟩) | (go_at_call 69; refine (roil3 _ _).mono ?_; rintro e w' ⟨rfl, rfl⟩) | (go_at_call 63; refine (rname_any _ _ HNm.out).mono ?_; rintro e w' ⟨rfl, rfl⟩))
                    go_ret3
                    exact ⟨ret_thr HG.out, BW.out⟩
                  · skip
                    cases i5 : inB g.push (-10000) 10000
                    · have hN : numE g = 7 := HNum.out.trans (if_neg (by rintro ⟨h0, h1, h2, h3, h4, h5, h6, h7, h8, h9, h10, h11, h12, h13, h14⟩; rw [i5] at h5; cases h5))
                      have HG := hid (show gtP g = (3, 0, 7) by rw [HE.out, hN]; rfl)
                      clear hN
                      clear R2 HNum HE
                      go_wp2_with (first | (go_at_call 64; refine (rin3 _ _ _ _).mono ?_; rintro e w' ⟨rfl, rfl⟩) | (go_at_call 66; refine (rlevel3 _ _).mono ?_; rintro e w' ⟨rfl, rfl⟩) | (go_at_call 68; refine (rforce3 _ _).mono ?_; rintro e w' ⟨rfl, rfl⟩) | (go_at_call 67; refine (rrate3 _ _).mono ?_; rintro e w' ⟨rfl, rfl⟩) | (go_at_call 69; refine (roil3 _ _).mono ?_; rintro e w' ⟨rfl, rfl⟩) | (go_at_call 63; refine (rname_any _ _ HNm.out).mono ?_; rintro e w' ⟨rfl, rfl⟩))
                      go_ret3
                      exact ⟨ret_thr HG.out, BW.out⟩
                    · skip
                      cases i6 : inB g.sealN 0 200000
                      · have hN : numE g = 7 := HNum.out.trans (if_neg (by rintro ⟨h0, h1, h2, h3, h4, h5, h6, h7, h8, h9, h10, h11, h12, h13, h14⟩; rw [i6] at h6; cases h6))
                        have HG := hid (show gtP g = (3, 0, 7) by rw [HE.out, hN]; rfl)
                        clear hN
                        clear R2 HNum HE
                        go_wp2_with (first | (go_at_call 64; refine (rin3 _ _ _ _).mono ?_; rintro e w' ⟨rfl, rfl⟩) | (go_at_call 66; refine (rlevel3 _ _).mono ?_; rintro e w' ⟨rfl, rfl⟩) | (go_at_call 68; refine (rforce3 _ _).mono ?_; rintro e w' ⟨rfl, rfl⟩) | (go_at_call 67; refine (rrate3 _ _).mono ?_; rintro e w' ⟨rfl, rfl⟩) | (go_at_call 69; refine (roil3 _ _).mono ?_; rintro e w' ⟨rfl, rfl⟩) | (go_at_call 63; refine (rname_any _ _ HNm.out).mono ?_; rintro e w' ⟨rfl, rfl⟩))
                        go_ret3
                        exact ⟨ret_thr HG.out, BW.out⟩
                      · skip
                        cases i7 : inB g.drive 0 200000
                        · have hN : numE g = 7 := HNum.out.trans (if_neg (by rintro ⟨h0, h1, h2, h3, h4, h5, h6, h7, h8, h9, h10, h11, h12, h13, h14⟩; rw [i7] at h7; cases h7))
                          have HG := hid (show gtP g = (3, 0, 7) by rw [HE.out, hN]; rfl)
                          clear hN
                          clear R2 HNum HE
                          go_wp2_with (first | (go_at_call 64; refine (rin3 _ _ _ _).mono ?_; rintro e w' ⟨rfl, rfl⟩) | (go_at_call 66; refine (rlevel3 _ _).mono ?_; rintro e w' ⟨rfl, rfl⟩) | (go_at_call 68; refine (rforce3 _ _).mono ?_; rintro e w' ⟨rfl, rfl⟩) | (go_at_call 67; refine (rrate3 _ _).mono ?_; rintro e w' ⟨rfl, rfl⟩) | (go_at_call 69; refine (roil3 _ _).mono ?_; rintro e w' ⟨rfl, rfl⟩) | (go_at_call 63; refine (rname_any _ _ HNm.out).mono ?_; rintro e w' ⟨rfl, rfl⟩))
                          go_ret3
                          exact ⟨ret_thr HG.out, BW.out⟩
                        · skip
                          cases i8 : inB g.brake 0 200000
                          · have hN : numE g = 7 := HNum.out.trans (if_neg (by rintro ⟨h0, h1, h2, h3, h4, h5, h6, h7, h8, h9, h10, h11, h12, h13, h14⟩; rw [i8] at h8; cases h8))
                            have HG := hid (show gtP g = (3, 0, 7) by rw [HE.out, hN]; rfl)
                            clear hN
                            clear R2 HNum HE
                            go_wp2_with (first | (go_at_call 64; refine (rin3 _ _ _ _).mono ?_; rintro e w' ⟨rfl, rfl⟩) | (go_at_call 66; refine (rlevel3 _ _).mono ?_; rintro e w' ⟨rfl, rfl⟩) | (go_at_call 68; refine (rforce3 _ _).mono ?_; rintro e w' ⟨rfl, rfl⟩) | (go_at_call 67; refine (rrate3 _ _).mono ?_; rintro e w' ⟨rfl, rfl⟩) | (go_at_call 69; refine (roil3 _ _).mono ?_; rintro e w' ⟨rfl, rfl⟩) | (go_at_call 63; refine (rname_any _ _ HNm.out).mono ?_; rintro e w' ⟨rfl, rfl⟩))
                            go_ret3
                            exact ⟨ret_thr HG.out, BW.out⟩
                          · skip
                            cases i9 : inB g.speed 1 100
                            · have hN : numE g = 7 := HNum.out.trans (if_neg (by rintro ⟨h0, h1, h2, h3, h4, h5, h6, h7, h8, h9, h10, h11, h12, h13, h14⟩; rw [i9] at h9; cases h9))
                              have HG := hid (show gtP g = (3, 0, 7) by rw [HE.out, hN]; rfl)
                              clear hN
                              clear R2 HNum HE
                              go_wp2_with (first | (go_at_call 64; refine (rin3 _ _ _ _).mono ?_; rintro e w' ⟨rfl, rfl⟩) | (go_at_call 66; refine (rlevel3 _ _).mono ?_; rintro e w' ⟨rfl, rfl⟩) | (go_at_call 68; refine (rforce3 _ _).mono ?_; rintro e w' ⟨rfl, rfl⟩) | (go_at_call 67; refine (rrate3 _ _).mono ?_; rintro e w' ⟨rfl, rfl⟩) | (go_at_call 69; refine (roil3 _ _).mono ?_; rintro e w' ⟨rfl, rfl⟩) | (go_at_call 63; refine (rname_any _ _ HNm.out).mono ?_; rintro e w' ⟨rfl, rfl⟩))
                              go_ret3
                              exact ⟨ret_thr HG.out, BW.out⟩
                            · skip
                              cases i10 : inB g.gravity 1 100
                              · have hN : numE g = 7 := HNum.out.trans (if_neg (by rintro ⟨h0, h1, h2, h3, h4, h5, h6, h7, h8, h9, h10, h11, h12, h13, h14⟩; rw [i10] at h10; cases h10))
                                have HG := hid (show gtP g = (3, 0, 7) by rw [HE.out, hN]; rfl)
                                clear hN
                                clear R2 HNum HE
                                go_wp2_with (first | (go_at_call 64; refine (rin3 _ _ _ _).mono ?_; rintro e w' ⟨rfl, rfl⟩) | (go_at_call 66; refine (rlevel3 _ _).mono ?_; rintro e w' ⟨rfl, rfl⟩) | (go_at_call 68; refine (rforce3 _ _).mono ?_; rintro e w' ⟨rfl, rfl⟩) | (go_at_call 67; refine (rrate3 _ _).mono ?_; rintro e w' ⟨rfl, rfl⟩) | (go_at_call 69; refine (roil3 _ _).mono ?_; rintro e w' ⟨rfl, rfl⟩) | (go_at_call 63; refine (rname_any _ _ HNm.out).mono ?_; rintro e w' ⟨rfl, rfl⟩))
                                go_ret3
                                exact ⟨ret_thr HG.out, BW.out⟩
                              · skip
                                cases i11 : inB g.use 0 100000
                                · have hN : numE g = 7 := HNum.out.trans (if_neg (by rintro ⟨h0, h1, h2, h3, h4, h5, h6, h7, h8, h9, h10, h11, h12, h13, h14⟩; rw [i11] at h11; cases h11))
                                  have HG := hid (show gtP g = (3, 0, 7) by rw [HE.out, hN]; rfl)
                                  clear hN
                                  clear R2 HNum HE
                                  go_wp2_with (first | (go_at_call 64; refine (rin3 _ _ _ _).mono ?_; rintro e w' ⟨rfl, rfl⟩) | (go_at_call 66; refine (rlevel3 _ _).mono ?_; rintro e w' ⟨rfl, rfl⟩) | (go_at_call 68; refine (rforce3 _ _).mono ?_; rintro e w' ⟨rfl, rfl⟩) | (go_at_call 67; refine (rrate3 _ _).mono ?_; rintro e w' ⟨rfl, rfl⟩) | (go_at_call 69; refine (roil3 _ _).mono ?_; rintro e w' ⟨rfl, rfl⟩) | (go_at_call 63; refine (rname_any _ _ HNm.out).mono ?_; rintro e w' ⟨rfl, rfl⟩))
                                  go_ret3
                                  exact ⟨ret_thr HG.out, BW.out⟩
                                · skip
                                  cases i12 : inB g.pump 0 100000
                                  · have hN : numE g = 7 := HNum.out.trans (if_neg (by rintro ⟨h0, h1, h2, h3, h4, h5, h6, h7, h8, h9, h10, h11, h12, h13, h14⟩; rw [i12] at h12; cases h12))
                                    have HG := hid (show gtP g = (3, 0, 7) by rw [HE.out, hN]; rfl)
                                    clear hN
                                    clear R2 HNum HE
                                    go_wp2_with (first | (go_at_call 64; refine (rin3 _ _ _ _).mono ?_; rintro e w' ⟨rfl, rfl⟩) | (go_at_call 66; refine (rlevel3 _ _).mono ?_; rintro e w' ⟨rfl, rfl⟩) | (go_at_call 68; refine (rforce3 _ _).mono ?_; rintro e w' ⟨rfl, rfl⟩) | (go_at_call 67; refine (rrate3 _ _).mono ?_; rintro e w' ⟨rfl, rfl⟩) | (go_at_call 69; refine (roil3 _ _).mono ?_; rintro e w' ⟨rfl, rfl⟩) | (go_at_call 63; refine (rname_any _ _ HNm.out).mono ?_; rintro e w' ⟨rfl, rfl⟩))
                                    go_ret3
                                    exact ⟨ret_thr HG.out, BW.out⟩
                                  · skip
                                    cases i13 : inB g.cap 0 100000
                                    · have hN : numE g = 7 := HNum.out.trans (if_neg (by rintro ⟨h0, h1, h2, h3, h4, h5, h6, h7, h8, h9, h10, h11, h12, h13, h14⟩; rw [i13] at h13; cases h13))
                                      have HG := hid (show gtP g = (3, 0, 7) by rw [HE.out, hN]; rfl)
                                      clear hN
                                      clear R2 HNum HE
                                      go_wp2_with (first | (go_at_call 64; refine (rin3 _ _ _ _).mono ?_; rintro e w' ⟨rfl, rfl⟩) | (go_at_call 66; refine (rlevel3 _ _).mono ?_; rintro e w' ⟨rfl, rfl⟩) | (go_at_call 68; refine (rforce3 _ _).mono ?_; rintro e w' ⟨rfl, rfl⟩) | (go_at_call 67; refine (rrate3 _ _).mono ?_; rintro e w' ⟨rfl, rfl⟩) | (go_at_call 69; refine (roil3 _ _).mono ?_; rintro e w' ⟨rfl, rfl⟩) | (go_at_call 63; refine (rname_any _ _ HNm.out).mono ?_; rintro e w' ⟨rfl, rfl⟩))
                                      go_ret3
                                      exact ⟨ret_thr HG.out, BW.out⟩
                                    · skip
                                      cases i14 : inB g.slack 0 ((g.travel - 1).tdiv 2)
                                      · have hN : numE g = 7 := HNum.out.trans (if_neg (by rintro ⟨h0, h1, h2, h3, h4, h5, h6, h7, h8, h9, h10, h11, h12, h13, h14⟩; rw [i14] at h14; cases h14))
                                        have HG := hid (show gtP g = (3, 0, 7) by rw [HE.out, hN]; rfl)
                                        clear hN
                                        clear R2 HNum HE
                                        go_wp2_with (first | (go_at_call 64; refine (rin3 _ _ _ _).mono ?_; rintro e w' ⟨rfl, rfl⟩) | (go_at_call 66; refine (rlevel3 _ _).mono ?_; rintro e w' ⟨rfl, rfl⟩) | (go_at_call 68; refine (rforce3 _ _).mono ?_; rintro e w' ⟨rfl, rfl⟩) | (go_at_call 67; refine (rrate3 _ _).mono ?_; rintro e w' ⟨rfl, rfl⟩) | (go_at_call 69; refine (roil3 _ _).mono ?_; rintro e w' ⟨rfl, rfl⟩) | (go_at_call 63; refine (rname_any _ _ HNm.out).mono ?_; rintro e w' ⟨rfl, rfl⟩))
                                        go_ret3
                                        exact ⟨ret_thr HG.out, BW.out⟩
                                      · skip
                                        have hN : numE g = 0 := HNum.out.trans (if_pos ⟨i0, i1, i2, i3, i4, i5, i6, i7, i8, i9, i10, i11, i12, i13, i14⟩)
                                        rw [hN, if_neg (by simp)] at HE
                                        clear hN
                                        clear HNum
                                        go_wp2_with (first | (go_at_call 64; refine (rin3 _ _ _ _).mono ?_; rintro e w' ⟨rfl, rfl⟩) | (go_at_call 66; refine (rlevel3 _ _).mono ?_; rintro e w' ⟨rfl, rfl⟩) | (go_at_call 68; refine (rforce3 _ _).mono ?_; rintro e w' ⟨rfl, rfl⟩) | (go_at_call 67; refine (rrate3 _ _).mono ?_; rintro e w' ⟨rfl, rfl⟩) | (go_at_call 69; refine (roil3 _ _).mono ?_; rintro e w' ⟨rfl, rfl⟩) | (go_at_call 63; refine (rname_any _ _ HNm.out).mono ?_; rintro e w' ⟨rfl, rfl⟩) | (refine wpList_load_mid rfl 25 _ rfl _ 0 rfl (gtL g p) _ (R2) Tryz.underlying25 rfl (by kernel_rfl) ?_))
                                        refine (rsensors_any g p w2 HOk2.out).mono ?_
                                        rintro e w3 ⟨rfl, hb3⟩
                                        have BF := bthen BW.out hb3
                                        generalize senP g = q at *
                                        obtain ⟨ra, re⟩ := q
                                        dsimp only at HE ⊢
                                        by_cases hr : re = 0
                                        · have z2 : (re != 0) = false := by simp [hr]
                                          have HG := hid (show gtP g = (0, 0, 0) by rw [HE.out, if_neg (by simp [hr])])
                                          go_wp2_with fail
                                          go_ret3
                                          exact ⟨ret_thr HG.out, BF⟩
                                        · have z2 : (re != 0) = true := by simp [hr]
                                          have HG := hid (show gtP g = (4, ra, re) by rw [HE.out, if_pos hr])
                                          go_wp2_with fail
                                          go_ret3
                                          exact ⟨ret_thr HG.out, BF⟩
        · have z : (qe != 0) = true := by simp [hq]
          have HG := hid (show gtP g = (2, qa, qe) by rw [HE.out, if_pos hq])
          go_wp2_with fail
          go_ret3
          exact ⟨ret_thr HG.out, BW.out⟩
end Go.Proofs.YtdoklolinbmhpaaGreat
