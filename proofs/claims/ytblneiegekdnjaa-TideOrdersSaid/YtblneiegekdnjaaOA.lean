/- Tide, part OA: the mathematics of TideOrders: what gauges say together does not depend on their order. -/
import Derived.Test.YtblneiegekdnjaaSU
set_option linter.all false
namespace Go.Proofs.Ytblneiegekdnjaa
open Go.RowKit Go.Shelf

theorem cnt_take (gs : List Gau) (t now x : Int) : ∀ k, k ≤ gs.length → cnt (voiceL gs t now k) x = (gs.take k).countP fun g => hasB g t now x
  | 0, _ => by simp [voiceL, cnt]
  | k + 1, h => by
    rw [cnt_snoc, cnt_take gs t now x k (by omega), List.take_succ_eq_append_getElem (by omega), List.countP_append, List.countP_singleton]
    rw [show gs.getD k default = gs[k] by simp [List.getD, show k < gs.length by omega]]
theorem cnt_all (gs : List Gau) (t now x : Int) : cnt (voiceL gs t now gs.length) x = gs.countP fun g => hasB g t now x := by
  rw [cnt_take gs t now x _ (Nat.le_refl _), List.take_length]
theorem cnt_perm {gs hs : List Gau} (h : gs.Perm hs) (t now x : Int) : cnt (voiceL gs t now gs.length) x = cnt (voiceL hs t now hs.length) x := by
  rw [cnt_all, cnt_all]; exact h.countP_eq _

theorem firstAt_of : ∀ (l : List (Int × Int)) (k : Nat), (∀ p ∈ l, p.2 = 0) → (firstAt k l).2.2 = 0
  | [], _, _ => rfl
  | (a, e) :: r, k, h => by
    have h0 : e = 0 := h (a, e) List.mem_cons_self
    unfold firstAt
    rw [if_neg (by simp [h0])]
    exact firstAt_of r _ fun p hp => h p (List.mem_cons_of_mem _ hp)
theorem each_of {f : Nat → Int} : ∀ (n k : Nat), (∀ i, k ≤ i → i < k + n → f i = 0) → eachP f k n = (0, 0)
  | 0, _, _ => rfl
  | n + 1, k, h => by
    unfold eachP
    rw [if_neg (by simp [h k (Nat.le_refl _) (by omega)])]
    exact each_of n (k + 1) fun i h1 h2 => h i (by omega) (by omega)
/-- When there is no error in what is asked. -/
theorem askE_iff (gs : List Gau) (t now : Int) : askE gs t now = 0 ↔ gs.length ≤ 8 ∧ (∀ g ∈ gs, (gaugeP g).2.2 = 0) ∧ (gs.map fun g => g.name.toList).Nodup ∧ (0 ≤ t ∧ t ≤ 200000) ∧ (0 ≤ now ∧ now ≤ 200000) := by
  constructor
  · intro h
    obtain ⟨h1, _, h3, h4, h5⟩ := askE_ok h
    refine ⟨h1, fun g hg => ?_, ?_, h4, h5⟩
    · obtain ⟨i, hi, rfl⟩ := List.getElem_of_mem hg
      exact ask_gauges h i hi
    · refine List.pairwise_iff_getElem.2 fun i j hi hj hij e => ?_
      simp only [List.length_map] at hi hj
      simp only [List.getElem_map] at e
      have := h3 j hj
      unfold twE at this
      rw [if_pos (idxP_some.2 ⟨i, Nat.zero_le _, by omega, by simp [twB, List.getD, hi, hj, e]⟩)] at this
      exact absurd this (by decide)
  · rintro ⟨h1, h2, h3, h4, h5⟩
    refine firstAt_of _ _ fun p hp => ?_
    simp only [List.mem_cons, List.not_mem_nil, or_false] at hp
    rcases hp with rfl | rfl | rfl | rfl
    · have : decide ((gs.length : Int) ≤ 8) = true := decide_eq_true (by omega)
      rw [this]; rfl
    · rw [each_of]
      intro i _ hi
      have hi' : i < gs.length := by omega
      unfold ggE
      rw [show gs.getD i default = gs[i] by simp [List.getD, hi']]
      exact h2 _ (List.getElem_mem _)
    · rw [each_of]
      intro j _ hj
      have hj' : j < gs.length := by omega
      unfold twE
      refine if_neg fun hh => ?_
      obtain ⟨i, _, hi, he⟩ := idxP_some.1 hh
      have hi' : i < gs.length := by omega
      have := List.pairwise_iff_getElem.1 h3 i j (by simpa using hi') (by simpa using hj') (by omega)
      simp [twB, List.getD, hi', hj'] at he
      exact this (by simpa using he)
    · rw [inB_iff.2 h4, inB_iff.2 h5]; rfl
theorem askE_perm {gs hs : List Gau} (h : gs.Perm hs) (t now : Int) : askE gs t now = 0 ↔ askE hs t now = 0 := by
  rw [askE_iff, askE_iff, h.length_eq, (h.map _).nodup_iff]
  constructor
  · rintro ⟨a, b, c⟩; exact ⟨a, fun g hg => b g (h.mem_iff.2 hg), c⟩
  · rintro ⟨a, b, c⟩; exact ⟨a, fun g hg => b g (h.mem_iff.1 hg), c⟩

theorem soundRes_perm {V U : List Voice} (h : ∀ x, cnt V x = cnt U x) {n : Int} {r : (Int × Int) × Int} (k : SoundRes V n r) : SoundRes U n r := by
  rcases k with ⟨k0, k1⟩ | ⟨k0, k1, k2, k3⟩
  · exact .inl ⟨k0, fun x => by rw [← h]; exact k1 x⟩
  · exact .inr ⟨k0, by rw [← h]; exact k1, by rw [← h]; exact k2, fun x hx => k3 x (by rw [h]; exact hx)⟩
theorem soundIs_perm {gs hs : List Gau} (h : gs.Perm hs) {wrong t now : Int} {r q : (Int × Int) × Int} (k : SoundIs gs wrong t now r) (l : SoundIs hs wrong t now q) : r.1 = q.1 ∧ (r.2 = 0 ↔ q.2 = 0) := by
  unfold SoundIs at k l
  by_cases h0 : askE gs t now = 0
  · have h0' := (askE_perm h t now).1 h0
    rw [if_neg (by simp [h0])] at k
    rw [if_neg (by simp [h0'])] at l
    rw [← h.length_eq] at l
    split at k
    · rename_i h1; rw [if_pos h1] at l; rw [k, l]; exact ⟨rfl, Iff.rfl⟩
    · rename_i h1; rw [if_neg h1] at l
      have := (soundRes_perm (fun x => cnt_perm h t now x) k)
      rw [← h.length_eq] at this
      rw [this.unique l]; exact ⟨rfl, Iff.rfl⟩
  · have h0' : askE hs t now ≠ 0 := fun e => h0 ((askE_perm h t now).2 e)
    rw [if_pos h0] at k
    rw [if_pos h0'] at l
    rw [k, l]
    exact ⟨rfl, iff_of_false h0 h0'⟩
theorem agreeIs_perm {gs hs : List Gau} (h : gs.Perm hs) {t now m k e d : Int} {L M : List Int} (a : AgreeIs gs t now m L e) (b : AgreeIs hs t now k M d) : m = k ∧ (e = 0 ↔ d = 0) := by
  unfold AgreeIs at a b
  by_cases h0 : askE gs t now = 0
  · have h0' := (askE_perm h t now).1 h0
    rw [if_neg (by simp [h0])] at a
    rw [if_neg (by simp [h0'])] at b
    refine ⟨?_, iff_of_true a.2.2 b.2.2⟩
    have e : ∀ x, cnt (voiceL gs t now gs.length) x = cnt (voiceL hs t now hs.length) x := cnt_perm h t now
    have hm : ManyOk (voiceL hs t now hs.length) m := ⟨fun x => by rw [← e]; exact a.1.most x, by
      rcases a.1.some with ⟨h1, h2⟩ | ⟨x, hx⟩
      · exact .inr ⟨0, by rw [← e, h1, h2]; rfl⟩
      · exact .inr ⟨x, by rw [← e]; exact hx⟩⟩
    exact hm.unique b.1
  · have h0' : askE hs t now ≠ 0 := fun e => h0 ((askE_perm h t now).2 e)
    rw [if_pos h0] at a
    rw [if_pos h0'] at b
    exact ⟨by rw [a.1, b.1], iff_of_false (by rw [a.2.2]; exact h0) (by rw [b.2.2]; exact h0')⟩

end Go.Proofs.Ytblneiegekdnjaa
