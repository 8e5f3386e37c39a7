/- Tide, part ZP: Period. -/
import Derived.Test.YtblneiegekdnjaaZA
import Derived.Test.YtblneiegekdnjaaZM
set_option linter.all false
namespace Go.Proofs.Ytblneiegekdnjaa
open Go.RowKit

theorem gcd_step (m n : Nat) : Nat.gcd n (m % n) = Nat.gcd m n := by
  rw [Nat.gcd_comm m n, Nat.gcd_rec n m, Nat.gcd_comm]

set_option maxHeartbeats 1000000 in
theorem divisor_any (a b : Nat) (w : World) (ha : a ≤ 4611686018427387904) (hb : b ≤ 4611686018427387904) :
    Calls Try.prog 92 #[.int .i64 a, .int .i64 b] w fun e w' => e = .returned (.int .i64 (Nat.gcd a b : Nat)) ∧ Below w.heap.size w w' := by
  go_enter Try.func92, Try.ntmps92
  go_wp2_with fail
  go_loopw [0, 1] (fun x y wr => ∃ m n : Nat, x = .int .i64 m ∧ y = .int .i64 n ∧ m ≤ 4611686018427387904 ∧ n ≤ 4611686018427387904 ∧ Hid (Nat.gcd m n = Nat.gcd a b) ∧ Below w.heap.size w wr) (fun _ y _ => (intOf y).toNat)
  case atStart => exact ⟨a, b, rfl, rfl, ha, hb, hid rfl, Below.refl _ _⟩
  case round =>
    obtain ⟨m, n, rfl, rfl, hm, hn, hg, hbw⟩ := hrel
    by_cases h0 : n = 0
    · subst h0
      go_wp2_with fail
      go_ret
      exact ⟨by rw [← hg.out, Nat.gcd_zero_right]; rfl, hbw⟩
    · have h1 : ((n : Int) != 0) = true := by simp [h0]
      have h2 : ¬ (n : Int) = 0 := by omega
      have hlt : m % n < n := Nat.mod_lt _ (by omega)
      have hq : ((m : Int) % (n : Int)) = ((m % n : Nat) : Int) := by norm_cast
      have hq2 : ((m : Int).tmod (n : Int)) = ((m % n : Nat) : Int) := by rw [Int.tmod_eq_emod_of_nonneg (by omega)]; exact hq
      have HGs := hid (gcd_step m n)
      generalize m % n = r at *
      go_wp2_with fail
      go_quiet (fail)
      go_wp2_with fail
      refine ⟨⟨n, r, rfl, by go_num, hn, by omega, hid (by rw [HGs.out]; exact hg.out), below_drewN hbw _⟩, by simp [intOf]; omega⟩
theorem divisorVal (a b g : Nat) (w : World) (ha : a ≤ 4611686018427387904) (hb : b ≤ 4611686018427387904) (hg : Nat.gcd a b = g) :
    Calls Try.prog 92 #[.int .i64 a, .int .i64 b] w fun e w' => e = .returned (.int .i64 g) ∧ Below w.heap.size w w' := by
  rw [← hg]; exact divisor_any a b w ha hb
theorem cycleVal (nm : ByteArray) (ha : Option Addr) (n hc : Nat) (off step den slack : Int) (C : Int) (w : World) (hd0 : 1 ≤ den) (hd1 : den ≤ 1000) (hn : n ≤ 48) (hC : den * (n : Int) = C) :
    Calls Try.prog 91 #[.agg #[.string nm, .slice ha n hc, .int .i64 off, .int .i64 step, .int .i64 den, .int .i64 slack]] w fun e w' => e = .returned (.int .i64 C) ∧ Below w.heap.size w w' := by
  rw [← hC]; exact cycle_any nm ha n hc off step den slack w hd0 hd1 hn

def periodP (mean : Int) (cs : List Con) : Int × Int := if (checkP mean cs).2 ≠ 0 then (0, (checkP mean cs).2) else perL 1 cs
theorem periodP_eq (mean : Int) (cs : List Con) : periodP mean cs = if (checkP mean cs).2 ≠ 0 then (0, (checkP mean cs).2) else perL 1 cs := rfl
theorem perL_drop (p : Nat) (cs : List Con) (j : Nat) (h : j < cs.length) : perL p (cs.drop j) = if 1000000000 < p * (ownP cs[j] / Nat.gcd p (ownP cs[j])) then (0, 3) else perL (p * (ownP cs[j] / Nat.gcd p (ownP cs[j]))) (cs.drop (j + 1)) := by
  rw [List.drop_eq_getElem_cons h]; rfl

set_option maxRecDepth 100000 in
set_option maxHeartbeats 4000000 in
theorem period_any (mean : Int) (a : Option Addr) (cap : Nat) (cs : List Con) (w : World) (hok : ConsOk w a cap cs) :
    Calls Try.prog 40 #[.agg #[.int .i64 mean, .slice a cs.length cap]] w
      fun e w' => e = .returned (.tuple #[.int .i64 (periodP mean cs).1, .int .i64 (periodP mean cs).2]) ∧ Below w.heap.size w w' := by
  have HH := hid hok; clear hok
  have HP := hid (periodP_eq mean cs)
  go_enter Try.func40, Try.ntmps40
  go_wp2_with fail
  generalize hW1 : World.alloc w _ = W1
  have B1 : Below w.heap.size w W1 := by rw [← hW1]; exact (Below.refl _ _).alloc (Nat.le_refl _) _
  have S1 : w.heap.size < W1.heap.size := by rw [← hW1]; simp
  have b0 : W1.cell? ⟨w.heap.size, 0, none⟩ = some (.int .i64 mean) := by rw [← hW1]; simp [go_sem]
  have b1 : W1.cell? ⟨w.heap.size, 1, none⟩ = some (.slice a cs.length cap) := by rw [← hW1]; simp [go_sem]
  clear hW1
  refine (check_any mean a cap cs _ (HH.out.later B1 (Nat.le_refl _))).mono ?_
  rintro e W2 ⟨rfl, B2⟩
  have hs2 := B2.size
  have c0 := (B2.cell (p := ⟨w.heap.size, 0, none⟩) (by simp; omega)).trans b0
  have c1 := (B2.cell (p := ⟨w.heap.size, 1, none⟩) (by simp; omega)).trans b1
  have BW : Below w.heap.size w W2 := B1.trans (B2.mono (by omega))
  clear b0 b1
  have HGd := hid (fun h => tabGood_of (mean := mean) (cs := cs) h)
  generalize checkP mean cs = q at *
  by_cases hq : q.2 = 0
  · have hq' : (q.2 != 0) = false := by simp [hq]
    have HQ := hid hq; clear hq
    have hGd := HGd.out HQ.out
    have HGood := hid hGd.2.2
    have hlen := hGd.2.1
    clear hGd HGd
    have HR := hid (show periodP mean cs = perL 1 cs by rw [HP.out]; simp [HQ.out])
    go_wp2_with fail
    have C1 := hid c1; clear c0 c1
    go_loopw [6, 8, 9, 21] (fun pv _ _ i wr => ∃ j p : Nat, j ≤ cs.length ∧ i = .int .i64 j ∧ pv = .int .i64 p ∧ 0 < p ∧ p ≤ 1000000000 ∧ Hid (periodP mean cs = perL p (cs.drop j)) ∧ Below W2.heap.size W2 wr) (fun _ _ _ i _ => cs.length - (intOf i).toNat)
    case atStart => exact ⟨0, 1, Nat.zero_le _, rfl, rfl, by omega, by omega, hid (by rw [HR.out]; rfl), Below.refl _ _⟩
    case round =>
      obtain ⟨j, p, hj, rfl, rfl, hp0, hp1, hrel, hbw⟩ := hrel
      have hbl : Below w.heap.size w wr := BW.trans (hbw.mono (by omega))
      have hsz := hbw.size
      by_cases hlt : j < cs.length
      · rcases HH.out.at_ with h0 | ⟨b, o, rfl, hs, hcon⟩
        · subst h0; simp at hlt
        obtain ⟨hha, hhc, hca⟩ := hcon j hlt
        obtain ⟨c0, c1, c2, c3, c4, c5, _⟩ := hca.later hs hbl (Nat.le_refl _)
        have HD := hid (perL_drop p cs j hlt)
        have hgd := HGood.out cs[j] (List.getElem_mem _)
        have hcy := cyc_bd hgd
        have hob := ownP_bd hgd
        obtain ⟨g1, g2, gh, g3, g4, g5, g6, g7, g8, g9, g10⟩ := hgd
        clear gh hca hcon
        generalize cs[j] = c at *
        obtain ⟨C, hC⟩ : ∃ C : Nat, cyc c = C := ⟨(cyc c).toNat, by omega⟩
        obtain ⟨S, hS⟩ : ∃ S : Nat, c.step = S := ⟨c.step.toNat, by omega⟩
        have hCC : c.den * (c.hs.length : Int) = C := by rw [← hC]; rfl
        have hO : ownP c = C / Nat.gcd C S := by unfold ownP; rw [hC, hS]; rfl
        rw [hC] at hcy
        rw [hS] at g7 g8 c3
        obtain ⟨hcy1, hcy2⟩ := hcy
        obtain ⟨hob1, hob2⟩ := hob
        generalize hg : Nat.gcd C S = g at *
        have hgp : 0 < g := by rw [← hg]; exact Nat.gcd_pos_of_pos_left _ (by omega)
        generalize hoo : ownP c = O at *
        generalize hg2 : Nat.gcd p O = gq at *
        have hg2p : 0 < gq := by rw [← hg2]; exact Nat.gcd_pos_of_pos_left _ hp0
        have hz1 : ¬ (g : Int) = 0 := by omega
        have hz2 : ¬ (gq : Int) = 0 := by omega
        have hd1 : (C : Int) / (g : Int) = (O : Int) := by rw [hO]; norm_cast
        have hd2 : (O : Int) / (gq : Int) = ((O / gq : Nat) : Int) := by norm_cast
        have hd3 : O / gq ≤ 48000 := Nat.le_trans (Nat.div_le_self _ _) hob2
        have hdp : 0 < O / gq := Nat.div_pos (by rw [← hg2]; exact Nat.gcd_le_right _ (by omega)) hg2p
        generalize O / gq = d at *
        have hpd : p * d ≤ 1000000000 * 48000 := Nat.mul_le_mul hp1 hd3
        have hpd2 : ((p : Int) * (d : Int)) = ((p * d : Nat) : Int) := by norm_cast
        have hep : 0 < p * d := Nat.mul_pos hp0 hdp
        generalize hpe : p * d = e at *
        have HG1 := hid hg; have HG2 := hid hg2; have HCC := hid hCC
        clear hg hg2 hCC hC hS hO hoo hpe
        have T1 := C1.out
        go_wp2_with fail
        generalize hV : World.alloc wr _ = V
        have BV : Below wr.heap.size wr V := by rw [← hV]; exact (Below.refl _ _).alloc (Nat.le_refl _) _
        have SV : wr.heap.size < V.heap.size := by rw [← hV]; simp
        have d0 : V.cell? ⟨wr.heap.size, 0, none⟩ = some (.string c.name) := by rw [← hV]; simp [go_sem]
        have d1 : V.cell? ⟨wr.heap.size, 1, none⟩ = some (.slice hha c.hs.length hhc) := by rw [← hV]; simp [go_sem]
        have d2 : V.cell? ⟨wr.heap.size, 2, none⟩ = some (.int .i64 c.off) := by rw [← hV]; simp [go_sem]
        have d3 : V.cell? ⟨wr.heap.size, 3, none⟩ = some (.int .i64 S) := by rw [← hV]; simp [go_sem]
        have d4 : V.cell? ⟨wr.heap.size, 4, none⟩ = some (.int .i64 c.den) := by rw [← hV]; simp [go_sem]
        have d5 : V.cell? ⟨wr.heap.size, 5, none⟩ = some (.int .i64 c.slack) := by rw [← hV]; simp [go_sem]
        clear hV c0 c1 c2 c3 c4 c5
        have y0 : ∀ X : Later V.heap.size V, X.wd.cell? ⟨wr.heap.size, 0, none⟩ = some (.string c.name) := fun X => (X.below.cell (p := ⟨wr.heap.size, 0, none⟩) SV).trans d0
        have y1 : ∀ X : Later V.heap.size V, X.wd.cell? ⟨wr.heap.size, 1, none⟩ = some (.slice hha c.hs.length hhc) := fun X => (X.below.cell (p := ⟨wr.heap.size, 1, none⟩) SV).trans d1
        have y2 : ∀ X : Later V.heap.size V, X.wd.cell? ⟨wr.heap.size, 2, none⟩ = some (.int .i64 c.off) := fun X => (X.below.cell (p := ⟨wr.heap.size, 2, none⟩) SV).trans d2
        have y3 : ∀ X : Later V.heap.size V, X.wd.cell? ⟨wr.heap.size, 3, none⟩ = some (.int .i64 S) := fun X => (X.below.cell (p := ⟨wr.heap.size, 3, none⟩) SV).trans d3
        have y4 : ∀ X : Later V.heap.size V, X.wd.cell? ⟨wr.heap.size, 4, none⟩ = some (.int .i64 c.den) := fun X => (X.below.cell (p := ⟨wr.heap.size, 4, none⟩) SV).trans d4
        have y5 : ∀ X : Later V.heap.size V, X.wd.cell? ⟨wr.heap.size, 5, none⟩ = some (.int .i64 c.slack) := fun X => (X.below.cell (p := ⟨wr.heap.size, 5, none⟩) SV).trans d5
        refine wp_region_grow V.heap.size (by kernel_rfl) (by kernel_rfl) ?_
        repeat (go_big_quiet_step (first
          | (go_at_call 91; exact later_grow (Nat.le_refl _) (cycleVal _ _ _ _ _ _ _ _ _ _ g3 g4 g2 HCC.out))
          | (go_at_call 92; exact later_grow (Nat.le_refl _) (divisorVal _ _ _ _ (by omega) (by omega) HG1.out))))
        refine wpQuiet_nil ?_
        rintro wx ⟨⟨_, hbx⟩, rfl⟩
        have hsx := hbx.size
        clear y0 y1 y2 y3 y4 y5 d0 d1 d2 d3 d4 d5
        go_wp2_with fail
        refine (divisorVal _ _ _ _ (by omega) (by omega) HG2.out).mono ?_
        rintro r W3 ⟨rfl, B3⟩
        have BX : Below W2.heap.size W2 W3 := hbw.trans ((BV.mono hsz).trans ((hbx.mono (by omega)).trans (B3.mono (by omega))))
        have BL : Below w.heap.size w W3 := BW.trans (BX.mono (by omega))
        clear B3 hbx BV hbw BW hbl
        by_cases hbig : 1000000000 < e
        · have hbig' : (1000000000 : Int) < (e : Int) := by omega
          have HBg := hid hbig; clear hbig
          go_wp2_with fail
          refine bodyPost_ret (v := .tuple #[.int .i64 0, .int .i64 3]) (by simp [results, Try.results40, go_sem, *]) rfl ⟨by rw [hrel.out, HD.out, if_pos HBg.out], BL⟩
        · have HBg := hid hbig
          have hle : (e : Int) ≤ 1000000000 := by omega
          clear hbig
          go_wp2_with fail
          refine ⟨⟨j + 1, e, by omega, by go_num, rfl, hep, by omega, hid (by rw [hrel.out, HD.out, if_neg HBg.out]), BX⟩, by simp [intOf]; omega⟩
      · obtain rfl : j = cs.length := by omega
        rw [List.drop_length] at hrel
        go_wp2_with fail
        refine bodyPost_ret (v := .tuple #[.int .i64 p, .int .i64 0]) (by simp [results, Try.results40, go_sem, *]) rfl ⟨by rw [hrel.out]; rfl, hbl⟩
  · have hq' : (q.2 != 0) = true := by simp [hq]
    have HQ := hid hq; clear hq
    go_wp2_with fail
    refine bodyPost_ret (v := .tuple #[.int .i64 0, .int .i64 q.2]) (by simp [results, Try.results40, go_sem, *]) rfl ⟨by rw [HP.out, if_pos HQ.out], BW⟩
end Go.Proofs.Ytblneiegekdnjaa
