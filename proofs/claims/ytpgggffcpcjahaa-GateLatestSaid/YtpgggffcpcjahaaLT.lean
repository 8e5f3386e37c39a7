/- Gate, part LT: the mathematics of GateLatest. -/
import Derived.Test.YtpgggffcpcjahaaLI
set_option linter.all false
namespace Go.Proofs.Ytpgggffcpcjahaa
open Go.RowKit

theorem shutB_iff (gs : List Gt) (t : Sp) (j : Nat) (ss : List St) : shutB gs (vecF gs t j ss) = true ↔ ∀ i, i < gs.length → (itF (gs.getD i default) t j (ss.getD i default)).pos = (gs.getD i default).travel := by
  unfold shutB
  rw [List.all_eq_true]
  constructor
  · intro h i hi
    have := h i (List.mem_range.2 hi)
    rw [vec_get gs t j ss hi] at this
    simpa using this
  · intro h i hi
    have hi := List.mem_range.1 hi
    rw [vec_get gs t j ss hi]
    simpa using h i hi
/-- A set without rules whose Delay is without an error: each gate's time, and the greatest. -/
theorem delay_times {gs : List Gt} {ss : List St} {o i : Int} {p : Bool} (hl : ss.length = gs.length) (h : (delayP gs [] ss o i p).2 = 0) :
    ∃ k : Nat, k ≤ 2000 ∧ (delayP gs [] ss o i p).1 = upq k 10 ∧ (gs.length ≤ 6) ∧
      (∀ j, j < gs.length → ∃ m : Nat, m ≤ k ∧ timeP (gs.getD j default) (ss.getD j default) o i p = ((m : Int), 0)) ∧
      (k = 0 ∨ ∃ j, j < gs.length ∧ timeP (gs.getD j default) (ss.getD j default) o i p = ((k : Int), 0)) := by
  unfold delayP at h ⊢
  by_cases h0 : (setP gs []).2.2 = 0
  · rw [if_neg (by simp [h0])] at h ⊢
    dsimp only at h ⊢
    by_cases h1 : stsP gs ss (List.replicate gs.length (toCloseT o i p)) gs.length = 0
    · rw [if_neg (by simp [h1])] at h ⊢
      have hsg := setGood h0
      have hgE : ∀ j, j < gs.length → gtE (gs.getD j default) = 0 := by
        intro j hj
        unfold setP at h0
        rw [firstAt_all] at h0
        simp only [List.mem_cons, List.not_mem_nil, or_false, forall_eq_or_imp, forall_eq] at h0
        obtain ⟨h0, -⟩ := h0
        unfold gasP at h0
        rw [firstAt_all] at h0
        simp only [List.mem_cons, List.not_mem_nil, or_false, forall_eq_or_imp, forall_eq, each_all0] at h0
        have hE := h0.2 j (Nat.zero_le _) (by omega)
        unfold gaE at hE
        split at hE <;> simp_all
      have hsE : ∀ j, j < gs.length → spE (gs.getD j default) (ss.getD j default) (toCloseT o i p) = 0 := by
        intro j hj
        unfold stsP at h1
        rw [firstAt_all] at h1
        simp only [List.mem_cons, List.not_mem_nil, or_false, forall_eq_or_imp, forall_eq, each_all0] at h1
        have := h1.2 j (Nat.zero_le _) (by omega)
        unfold stsE at this
        rw [show (List.replicate gs.length (toCloseT o i p)).getD j default = toCloseT o i p by simp [List.getD, hj]] at this
        exact this
      have hT : ∀ j, j < gs.length → timeP (gs.getD j default) (ss.getD j default) o i p = searchF [gs.getD j default] [] [toCloseT o i p] [false] 0 2000 [ss.getD j default] := by
        intro j hj
        unfold timeP
        rw [if_neg (fun h => h (hgE j hj)), if_neg (fun h => h (hsE j hj))]
      have hv := vec_zero gs (toCloseT o i p) ss hl
      have hs := search_free gs (toCloseT o i p) ss 2000 0 0
      rw [hv] at hs
      rcases hs with ⟨k, k1, k2, k3, k4⟩ | ⟨-, k4⟩
      · rw [Nat.zero_add] at k4 k2
        simp only [Nat.zero_add] at k3
        have hk := (shutB_iff _ _ _ _).1 k2
        refine ⟨k, k1, by rw [k4], hsg.glen.2, fun j hj => ?_, ?_⟩
        · rw [hT j hj]
          rcases search_one (gs.getD j default) (toCloseT o i p) 2000 0 (ss.getD j default) with ⟨m, m1, m2, m3, m4⟩ | ⟨m1, m4⟩
          · refine ⟨m, ?_, by rw [m4]; simp⟩
            rcases Nat.lt_or_ge k m with hlt | hge
            · exact absurd (hk j hj) (m3 k hlt)
            · exact hge
          · exact absurd (hk j hj) (m1 k k1)
        · cases k with
          | zero => exact .inl rfl
          | succ k =>
            right
            have hf := k3 k (Nat.lt_succ_self k)
            obtain ⟨j, hj, hne⟩ : ∃ j, j < gs.length ∧ (itF (gs.getD j default) (toCloseT o i p) k (ss.getD j default)).pos ≠ (gs.getD j default).travel := by
              refine Classical.byContradiction fun hno => ?_
              have : shutB gs (vecF gs (toCloseT o i p) k ss) = true := (shutB_iff _ _ _ _).2 fun j hj => Classical.byContradiction fun hn => hno ⟨j, hj, hn⟩
              rw [hf] at this
              cases this
            refine ⟨j, hj, ?_⟩
            rw [hT j hj]
            have hG := gtGood (hgE j hj)
            have hS := (spGoods (hsE j hj)).1
            rcases search_one (gs.getD j default) (toCloseT o i p) 2000 0 (ss.getD j default) with ⟨m, m1, m2, m3, m4⟩ | ⟨m1, m4⟩
            · rw [m4]
              have a1 : ¬ k + 1 < m := fun hlt => m3 (k + 1) hlt (hk j hj)
              have a2 : ¬ m ≤ k := fun hle => hne (it_stays hG hS o i p hle m2)
              obtain rfl : m = k + 1 := by omega
              simp
            · exact absurd (hk j hj) (m1 _ k1)
      · rw [k4] at h; cases h
    · rw [if_pos h1] at h; exact absurd h h1
  · rw [if_pos h0] at h; exact absurd h h0
end Go.Proofs.Ytpgggffcpcjahaa
