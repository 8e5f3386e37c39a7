/- Gate, part CA: the reference's small functions, and own. -/
import Derived.Test.YtdoklolinbmhpaaUC
import Derived.Test.YtdoklolinbmhpaaLA
import Derived.BigQuiet
set_option linter.all false
namespace Go.Proofs.Ytdoklolinbmhpaa
open Go.RowKit

theorem rin3 (x lo hi : Int) (w : World) :
    Calls Try.prog 42 #[.int .i64 x, .int .i64 lo, .int .i64 hi] w fun e w' => e = .returned (.bool (inB x lo hi)) ∧ w = w' := by
  by_cases h1 : lo ≤ x <;> by_cases h2 : x ≤ hi
  all_goals
    have h : inB x lo hi = decide (lo ≤ x ∧ x ≤ hi) := rfl
    simp only [h1, h2, and_self, and_true, and_false, decide_true, decide_false] at h
    have H := hid h; clear h
    go_enter Try.func42, Try.ntmps42
    go_wp2
    go_ret
    exact ⟨by rw [H.out]; simp [*], rfl⟩
theorem rlevel3 (x : Int) (w : World) :
    Calls Try.prog 53 #[.int .i64 x] w fun e w' => e = .returned (.bool (inB x (-20000) 20000)) ∧ w = w' := by
  go_enter Try.func53, Try.ntmps53
  go_wp2_with (go_at_call 42; refine (rin3 _ _ _ _).mono ?_; rintro e w' ⟨rfl, rfl⟩)
  go_ret
  exact ⟨rfl, rfl⟩
theorem rforce3 (x : Int) (w : World) :
    Calls Try.prog 55 #[.int .i64 x] w fun e w' => e = .returned (.bool (inB x 0 200000)) ∧ w = w' := by
  go_enter Try.func55, Try.ntmps55
  go_wp2_with (go_at_call 42; refine (rin3 _ _ _ _).mono ?_; rintro e w' ⟨rfl, rfl⟩)
  go_ret
  exact ⟨rfl, rfl⟩
theorem rrate3 (x : Int) (w : World) :
    Calls Try.prog 54 #[.int .i64 x] w fun e w' => e = .returned (.bool (inB x 0 10000)) ∧ w = w' := by
  go_enter Try.func54, Try.ntmps54
  go_wp2_with (go_at_call 42; refine (rin3 _ _ _ _).mono ?_; rintro e w' ⟨rfl, rfl⟩)
  go_ret
  exact ⟨rfl, rfl⟩
theorem roil3 (x : Int) (w : World) :
    Calls Try.prog 56 #[.int .i64 x] w fun e w' => e = .returned (.bool (inB x 0 100000)) ∧ w = w' := by
  go_enter Try.func56, Try.ntmps56
  go_wp2_with (go_at_call 42; refine (rin3 _ _ _ _).mono ?_; rintro e w' ⟨rfl, rfl⟩)
  go_ret
  exact ⟨rfl, rfl⟩
theorem each_zero {f : Nat → Int} : ∀ {n k : Nat}, (eachP f k n).2 = 0 → eachP f k n = (0, 0)
  | 0, k, _ => rfl
  | n + 1, k, h => by
    unfold eachP at h ⊢
    by_cases hf : f k = 0
    · rw [if_neg (by simp [hf])] at h ⊢; exact each_zero h
    · rw [if_pos hf] at h; exact absurd h hf
theorem ownP_eq (g : Gt) : ownP g = if inB g.own.length 2 16 = false then (0, 3) else eachP (ownE g) 0 g.own.length := by
  unfold ownP
  cases h : inB g.own.length 2 16
  · simp [firstAt, mustP]
  · simp only [Bool.true_eq_false, if_false]
    by_cases e : (eachP (ownE g) 0 g.own.length).2 = 0
    · have := each_zero e
      rw [this]; simp [firstAt, mustP]
    · obtain ⟨a, b, hab⟩ : ∃ a b, eachP (ownE g) 0 g.own.length = (a, b) := ⟨_, _, rfl⟩
      rw [hab] at e ⊢
      simp only at e
      simp [firstAt, mustP, e]
set_option maxRecDepth 100000 in
set_option maxHeartbeats 4000000 in
theorem rown_any (g : Gt) (p : GtP) (w : World) (hok : GtOk w p g) (hk : 1 ≤ g.kind ∧ g.kind ≤ 3) :
    Calls Try.prog 52 #[.agg (gtL g p).toArray] w fun e w' => e = .returned (.tuple #[.int .i64 (ownP g).1, .int .i64 (ownP g).2]) ∧ Below w.heap.size w w' := by
  have HE := hid (ownP_eq g)
  have R := range_alloc w (gtL g p) 33
  have B1 : Below w.heap.size w (w.alloc (.cells (gtL g p).toArray 33)) := (Below.refl _ _).alloc (Nat.le_refl _) _
  have c1 := range_cell R (show (gtL g p)[1]? = some (.int .i64 g.kind) from rfl)
  have c3 := range_cell R (show (gtL g p)[3]? = some (.slice p.oa g.own.length p.oc) from rfl)
  have HO := hid (hok.later B1 (Nat.le_refl _)).own
  have hwf := hid hok.wf
  clear hok R
  obtain ⟨n, hn⟩ : ∃ n, g.own.length = n := ⟨_, rfl⟩
  rw [hn] at HE c3
  have HN := hid hn
  clear hn
  go_enter Try.func52, Try.ntmps52
  cases hi : inB n 2 16
  · go_wp2_with (go_at_call 42; refine (rin3 _ _ _ _).mono ?_; rintro e w' ⟨rfl, rfl⟩)
    generalize World.alloc w _ = W1 at *
    go_ret2
    exact ⟨ret_two (by rw [HE.out, hi]; rfl) (by rw [HE.out, hi]; rfl), B1⟩
  · have HI := hid hi
    have hb := inB_iff.1 hi
    rw [hi, if_neg (by simp)] at HE
    clear hi
    have HB := hid (show 2 ≤ n ∧ n ≤ 16 by omega)
    clear hb
    have HT : Hid (inB (n : Int) 2 16 = true) := HI
    obtain ⟨q, hq⟩ : ∃ q, inB (n : Int) 2 16 = q := ⟨_, rfl⟩
    have hqt : q = true := hq.symm.trans HI.out
    have HQ := hid hq
    clear hq
    subst hqt
    go_wp2_with (go_at_call 42; refine (rin3 _ _ _ _).mono ?_; rintro e w' ⟨rfl, rfl⟩; rw [HI.out])
    generalize World.alloc w _ = W1 at *
    go_loopw [4] (fun iv wr => ∃ i : Nat, i ≤ n ∧ iv = .int .i64 i ∧ Hid (eachP (ownE g) 0 n = eachP (ownE g) i (n - i)) ∧ wr = W1) (fun iv _ => n - (intOf iv).toNat)
    case atStart => exact ⟨0, Nat.zero_le _, rfl, hid rfl, rfl⟩
    case round =>
      obtain ⟨i, hi, rfl, HL, rfl⟩ := hrel
      by_cases hlt : i < n
      · have hig : i < g.own.length := by rw [HN.out]; exact hlt
        obtain ⟨b, o, ea, hb0, hc⟩ : ∃ b o, p.oa = some ⟨b, o, none⟩ ∧ b < wr.heap.size ∧ ∀ i (h : i < g.own.length), wr.cell? ⟨b, o + i, none⟩ = some (.int .i64 g.own[i]) := by
          rcases HO.out with h | h
          · rw [h] at hig; simp at hig
          · exact h
        have ck := hc i hig
        have HX := hid (show ownE g i = if inB g.own[i] (-200000) 200000 = false then 7 else if suitsB g.kind g.own[i] = false then 2 else 0 by unfold ownE; simp [List.getD, hig])
        obtain ⟨x, hx⟩ : ∃ x, g.own[i] = x := ⟨_, rfl⟩
        rw [hx] at ck HX
        rw [ea] at c3 ⊢
        have hiI : (i : Int) < (n : Int) := by omega
        have hi0 : (0 : Int) ≤ (i : Int) := Int.natCast_nonneg _
        have vi : IntKind.i64.wrap ((i : Int) + 1) = ((i + 1 : Nat) : Int) := by rw [IntWalk.i64_in _ (by have := HB.out; omega)]; omega
        clear hc hx hig hb0 ea
        obtain ⟨y, hy⟩ : ∃ y, inB x (-200000) 200000 = y := ⟨_, rfl⟩
        have HY := hid hy
        rw [hy] at HX
        clear hy
        cases y
        · have HF := hid (show eachP (ownE g) i (n - i) = ((i : Int), 7) by rw [eachP_yes hlt (by rw [HX.out]; simp), HX.out]; rfl)
          clear HX hlt
          go_wp2_with (go_at_call 42; refine (rin3 _ _ _ _).mono ?_; rintro e w' ⟨rfl, rfl⟩; rw [HY.out])
          go_ret2
          exact ⟨ret_two (by rw [HE.out, HL.out, HF.out]) (by rw [HE.out, HL.out, HF.out]), B1⟩
        · rw [if_neg (by simp)] at HX
          by_cases hs : suitsB g.kind x = true
          · have HF := hid (show eachP (ownE g) i (n - i) = eachP (ownE g) (i + 1) (n - (i + 1)) from eachP_no hlt (by rw [HX.out, hs]; rfl))
            rcases (show (g.kind = 1 ∧ x = 0) ∨ (g.kind = 2 ∧ 0 ≤ x) ∨ (g.kind = 3 ∧ x ≤ 0) by
              unfold suitsB at hs
              rcases (show g.kind = 1 ∨ g.kind = 2 ∨ g.kind = 3 by omega) with h | h | h
              · rw [h] at hs; simp at hs; exact .inl ⟨h, hs⟩
              · rw [h] at hs; simp at hs; exact .inr (.inl ⟨h, hs⟩)
              · rw [h] at hs; simp at hs; exact .inr (.inr ⟨h, hs⟩)) with ⟨h1, h2⟩ | ⟨h1, h2⟩ | ⟨h1, h2⟩
            · have e1 : (x != 0) = false := by simp [h2]
              have k1 : (g.kind == 1) = true := by rw [h1]; rfl
              have k2 : (g.kind == 2) = false := by rw [h1]; rfl
              have k3 : (g.kind == 3) = false := by rw [h1]; rfl
              clear h1 h2 hs HX
              go_wp2_with (go_at_call 42; refine (rin3 _ _ _ _).mono ?_; rintro e w' ⟨rfl, rfl⟩; rw [HY.out])
              exact ⟨⟨i + 1, by omega, by go_num, hid (HL.out.trans HF.out), trivial⟩, by simp [intOf]; omega⟩
            · have e1 : decide (x < 0) = false := by simp; omega
              have k1 : (g.kind == 1) = false := by rw [h1]; rfl
              have k2 : (g.kind == 2) = true := by rw [h1]; rfl
              have k3 : (g.kind == 3) = false := by rw [h1]; rfl
              clear h1 h2 hs HX 
              go_wp2_with (go_at_call 42; refine (rin3 _ _ _ _).mono ?_; rintro e w' ⟨rfl, rfl⟩; rw [HY.out])
              exact ⟨⟨i + 1, by omega, by go_num, hid (HL.out.trans HF.out), trivial⟩, by simp [intOf]; omega⟩
            · have e1 : decide (0 < x) = false := by simp; omega
              have k1 : (g.kind == 1) = false := by rw [h1]; rfl
              have k2 : (g.kind == 2) = false := by rw [h1]; rfl
              have k3 : (g.kind == 3) = true := by rw [h1]; rfl
              clear h1 h2 hs HX 
              go_wp2_with (go_at_call 42; refine (rin3 _ _ _ _).mono ?_; rintro e w' ⟨rfl, rfl⟩; rw [HY.out])
              exact ⟨⟨i + 1, by omega, by go_num, hid (HL.out.trans HF.out), trivial⟩, by simp [intOf]; omega⟩
          · rcases (show (g.kind = 1 ∧ x ≠ 0) ∨ (g.kind = 2 ∧ x < 0) ∨ (g.kind = 3 ∧ 0 < x) by
              unfold suitsB at hs
              rcases (show g.kind = 1 ∨ g.kind = 2 ∨ g.kind = 3 by omega) with h | h | h
              · rw [h] at hs; simp at hs; exact .inl ⟨h, hs⟩
              · rw [h] at hs; simp at hs; exact .inr (.inl ⟨h, hs⟩)
              · rw [h] at hs; simp at hs; exact .inr (.inr ⟨h, hs⟩)) with ⟨h1, h2⟩ | ⟨h1, h2⟩ | ⟨h1, h2⟩
            · have e1 : (x != 0) = true := by simp [h2]
              have k1 : (g.kind == 1) = true := by rw [h1]; rfl
              have k2 : (g.kind == 2) = false := by rw [h1]; rfl
              have k3 : (g.kind == 3) = false := by rw [h1]; rfl
              have HF := hid (show eachP (ownE g) i (n - i) = ((i : Int), 2) by rw [eachP_yes hlt (by rw [HX.out, if_pos (by simpa using hs)]; simp), HX.out, if_pos (by simpa using hs)])
              clear h1 h2 hs HX hlt
              go_wp2_with (go_at_call 42; refine (rin3 _ _ _ _).mono ?_; rintro e w' ⟨rfl, rfl⟩; rw [HY.out])
              go_ret2
              exact ⟨ret_two (by rw [HE.out, HL.out, HF.out]) (by rw [HE.out, HL.out, HF.out]), B1⟩
            · have e1 : decide (x < 0) = true := by simp [h2]
              have k1 : (g.kind == 1) = false := by rw [h1]; rfl
              have k2 : (g.kind == 2) = true := by rw [h1]; rfl
              have k3 : (g.kind == 3) = false := by rw [h1]; rfl
              have HF := hid (show eachP (ownE g) i (n - i) = ((i : Int), 2) by rw [eachP_yes hlt (by rw [HX.out, if_pos (by simpa using hs)]; simp), HX.out, if_pos (by simpa using hs)])
              clear h1 h2 hs HX hlt
              go_wp2_with (go_at_call 42; refine (rin3 _ _ _ _).mono ?_; rintro e w' ⟨rfl, rfl⟩; rw [HY.out])
              go_ret2
              exact ⟨ret_two (by rw [HE.out, HL.out, HF.out]) (by rw [HE.out, HL.out, HF.out]), B1⟩
            · have e1 : decide (0 < x) = true := by simp [h2]
              have k1 : (g.kind == 1) = false := by rw [h1]; rfl
              have k2 : (g.kind == 2) = false := by rw [h1]; rfl
              have k3 : (g.kind == 3) = true := by rw [h1]; rfl
              have HF := hid (show eachP (ownE g) i (n - i) = ((i : Int), 2) by rw [eachP_yes hlt (by rw [HX.out, if_pos (by simpa using hs)]; simp), HX.out, if_pos (by simpa using hs)])
              clear h1 h2 hs HX hlt
              go_wp2_with (go_at_call 42; refine (rin3 _ _ _ _).mono ?_; rintro e w' ⟨rfl, rfl⟩; rw [HY.out])
              go_ret2
              exact ⟨ret_two (by rw [HE.out, HL.out, HF.out]) (by rw [HE.out, HL.out, HF.out]), B1⟩
      · obtain rfl : i = n := by omega
        have hjj : ¬ ((i : Int) < (i : Int)) := by omega
        go_wp2_with fail
        go_ret2
        exact ⟨ret_two (by rw [HE.out, HL.out, Nat.sub_self]; rfl) (by rw [HE.out, HL.out, Nat.sub_self]; rfl), B1⟩
end Go.Proofs.Ytdoklolinbmhpaa
