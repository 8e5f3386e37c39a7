/- Tide, part SA: the sweep over the ends of spans; as numbers. -/
set_option linter.all false
namespace Go.Proofs.Ytblneiegekdnjaa

/-- Ends of spans (where, and which: 0 is the lower one), from below. -/
def EndLe (a b : Int × Int) : Prop := a.1 < b.1 ∨ a.1 = b.1 ∧ a.2 ≤ b.2
/-- The spans in which at least n are open; o are open, the present one from f on. -/
def sweep (n : Int) : List (Int × Int) → Int → Int → List (Int × Int)
  | [], _, _ => []
  | e :: r, o, f => if e.2 = 0 then sweep n r (o + 1) (if o = n - 1 then e.1 else f) else if o = n then (f, e.1) :: sweep n r (o - 1) f else sweep n r (o - 1) f
def lows (r : List (Int × Int)) (x : Int) : Nat := r.countP fun e => decide (e.2 = 0 ∧ e.1 ≤ x)
def ups (r : List (Int × Int)) (x : Int) : Nat := r.countP fun e => decide (e.2 ≠ 0 ∧ e.1 < x)
def allLow (r : List (Int × Int)) : Nat := r.countP fun e => decide (e.2 = 0)
def allUp (r : List (Int × Int)) : Nat := r.countP fun e => decide (e.2 ≠ 0)
theorem countP_none {p : Int × Int → Bool} {r : List (Int × Int)} (h : ∀ e ∈ r, p e = false) : r.countP p = 0 := by
  rw [List.countP_eq_zero]; intro e he; simp [h e he]

theorem sweep_spec (n : Int) (hn : 1 ≤ n) : ∀ (r : List (Int × Int)) (o f cur : Int), r.Pairwise EndLe → (∀ e ∈ r, e.2 = 0 ∨ e.2 = 1) → (∀ e ∈ r, cur ≤ e.1) → (n ≤ o → f ≤ cur) → o + allLow r = allUp r →
    (∀ s ∈ sweep n r o f, (s.1 = f ∧ n ≤ o ∨ (s.1, 0) ∈ r) ∧ (s.2, 1) ∈ r ∧ s.1 ≤ s.2) ∧ (n ≤ o → ∃ u, (f, u) ∈ sweep n r o f) ∧
    (∀ x, cur ≤ x → ((∃ s ∈ sweep n r o f, s.1 ≤ x ∧ x ≤ s.2) ↔ n ≤ o + lows r x - ups r x)) ∧ (sweep n r o f).Pairwise (fun s t => s.2 < t.1)
  | [], o, f, cur, _, _, _, _, hz => by
    simp [allLow, allUp] at hz
    subst hz
    refine ⟨by simp [sweep], fun h => by omega, fun x _ => ?_, by simp [sweep]⟩
    simp [sweep, lows, ups]; omega
  | (a, k) :: r, o, f, cur, hs, hk, hc, hf, hz => by
    obtain ⟨hs1, hs2⟩ := List.pairwise_cons.1 hs
    have hk' : ∀ e ∈ r, e.2 = 0 ∨ e.2 = 1 := fun e he => hk e (List.mem_cons_of_mem _ he)
    have hca : cur ≤ a := hc _ List.mem_cons_self
    have hge : ∀ e ∈ r, a ≤ e.1 := fun e he => by rcases hs1 e he with h | h <;> simp at h <;> omega
    rcases hk _ List.mem_cons_self with h0 | h1
    · simp only at h0
      subst h0
      have hz' : (o + 1) + allLow r = allUp r := by
        simp [allLow, allUp, List.countP_cons] at hz ⊢; omega
      obtain ⟨i1, i2, i3, i4⟩ := sweep_spec n hn r (o + 1) (if o = n - 1 then a else f) a hs2 hk' hge (by
        intro h
        by_cases e : o = n - 1
        · rw [if_pos e]; omega
        · rw [if_neg e]; have := hf (by omega); omega) hz'
      have e : sweep n ((a, 0) :: r) o f = sweep n r (o + 1) (if o = n - 1 then a else f) := by rw [sweep, if_pos rfl]
      rw [e]
      refine ⟨fun s hs => ?_, fun h => ?_, fun x hx => ?_, i4⟩
      · obtain ⟨j1, j2, j3⟩ := i1 s hs
        refine ⟨?_, List.mem_cons_of_mem _ j2, j3⟩
        rcases j1 with ⟨j, j'⟩ | j
        · by_cases e : o = n - 1
          · rw [if_pos e] at j; right; rw [j]; exact List.mem_cons_self
          · rw [if_neg e] at j; left; exact ⟨j, by omega⟩
        · exact .inr (List.mem_cons_of_mem _ j)
      · have h2 := i2 (by omega)
        rw [if_neg (by omega)] at h2 ⊢
        exact h2
      · by_cases hax : a ≤ x
        · rw [i3 x hax]
          have e1 : lows ((a, 0) :: r) x = lows r x + 1 := by simp [lows, List.countP_cons, hax]
          have e2 : ups ((a, 0) :: r) x = ups r x := by simp [ups, List.countP_cons]
          rw [e1, e2]; omega
        · have e1 : lows ((a, 0) :: r) x = 0 := countP_none fun e he => by
            rcases List.mem_cons.1 he with rfl | he
            · simp; omega
            · have := hge e he; simp; omega
          have e2 : ups ((a, 0) :: r) x = 0 := countP_none fun e he => by
            rcases List.mem_cons.1 he with rfl | he
            · simp
            · have := hge e he; simp; omega
          rw [e1, e2]
          constructor
          · rintro ⟨s, hs, h1, h2⟩
            obtain ⟨j1, j2, j3⟩ := i1 s hs
            rcases j1 with ⟨j, j'⟩ | j
            · by_cases e : o = n - 1
              · rw [if_pos e] at j; omega
              · omega
            · have := hge _ j; simp at this; omega
          · intro h
            obtain ⟨u, hu⟩ := i2 (by omega)
            rw [if_neg (by omega)] at hu
            obtain ⟨_, j2, _⟩ := i1 _ (by rw [if_neg (by omega)]; exact hu)
            have := hge _ j2
            have := hf (by omega)
            refine ⟨(f, u), by rw [if_neg (by omega)]; exact hu, ?_, ?_⟩ <;> simp at * <;> omega
    · simp only at h1
      subst h1
      have hz' : (o - 1) + allLow r = allUp r := by
        simp [allLow, allUp, List.countP_cons] at hz ⊢; omega
      obtain ⟨i1, i2, i3, i4⟩ := sweep_spec n hn r (o - 1) f a hs2 hk' hge (by
        intro h; have := hf (by omega); omega) hz'
      have hlow : ∀ y, (y, 0) ∈ r → a < y := fun y hy => by
        rcases hs1 _ hy with h | ⟨h, h'⟩
        · exact h
        · simp at h'
      have c1 : ∀ x, x ≤ a → lows ((a, 1) :: r) x = 0 := fun x hx => countP_none fun e he => by
        rcases List.mem_cons.1 he with rfl | he
        · simp
        · by_cases h : e.2 = 0
          · have := hlow e.1 (by rw [← h]; exact he); simp [h]; omega
          · simp [h]
      have c2 : ∀ x, x ≤ a → ups ((a, 1) :: r) x = 0 := fun x hx => countP_none fun e he => by
        rcases List.mem_cons.1 he with rfl | he
        · simp; omega
        · have := hge e he; simp; omega
      have c3 : ∀ x, a < x → lows ((a, 1) :: r) x = lows r x := fun x hx => by simp [lows, List.countP_cons]
      have c4 : ∀ x, a < x → ups ((a, 1) :: r) x = ups r x + 1 := fun x hx => by simp [ups, List.countP_cons, hx]
      by_cases ho : o = n
      · have e : sweep n ((a, 1) :: r) o f = (f, a) :: sweep n r (o - 1) f := by rw [sweep, if_neg (by simp), if_pos ho]
        rw [e]
        have hfa := hf (by omega)
        have htail : ∀ s ∈ sweep n r (o - 1) f, a < s.1 := fun s hs => by
          obtain ⟨j1, _, _⟩ := i1 s hs
          rcases j1 with ⟨_, j⟩ | j
          · omega
          · exact hlow _ j
        refine ⟨fun s hs => ?_, fun _ => ⟨a, List.mem_cons_self⟩, fun x hx => ?_, List.pairwise_cons.2 ⟨fun s hs => htail s hs, i4⟩⟩
        · rcases List.mem_cons.1 hs with rfl | hs
          · exact ⟨.inl ⟨rfl, by omega⟩, List.mem_cons_self, by simp; omega⟩
          · obtain ⟨j1, j2, j3⟩ := i1 s hs
            refine ⟨?_, List.mem_cons_of_mem _ j2, j3⟩
            rcases j1 with ⟨_, j⟩ | j
            · omega
            · exact .inr (List.mem_cons_of_mem _ j)
        · by_cases hxa : x ≤ a
          · rw [c1 x hxa, c2 x hxa]
            exact ⟨fun _ => by omega, fun _ => ⟨_, List.mem_cons_self, by simp; omega, hxa⟩⟩
          · rw [c3 x (by omega), c4 x (by omega)]
            have := i3 x (by omega)
            rw [show o + (lows r x : Int) - ((ups r x + 1 : Nat) : Int) = (o - 1) + lows r x - ups r x by omega, ← this]
            constructor
            · rintro ⟨s, hs, h1, h2⟩
              rcases List.mem_cons.1 hs with rfl | hs
              · simp at h2; omega
              · exact ⟨s, hs, h1, h2⟩
            · rintro ⟨s, hs, h1, h2⟩
              exact ⟨s, List.mem_cons_of_mem _ hs, h1, h2⟩
      · have e : sweep n ((a, 1) :: r) o f = sweep n r (o - 1) f := by rw [sweep, if_neg (by simp), if_neg ho]
        rw [e]
        refine ⟨fun s hs => ?_, fun h => i2 (by omega), fun x hx => ?_, i4⟩
        · obtain ⟨j1, j2, j3⟩ := i1 s hs
          refine ⟨?_, List.mem_cons_of_mem _ j2, j3⟩
          rcases j1 with ⟨j, j'⟩ | j
          · exact .inl ⟨j, by omega⟩
          · exact .inr (List.mem_cons_of_mem _ j)
        · by_cases hxa : x ≤ a
          · rw [c1 x hxa, c2 x hxa]
            constructor
            · rintro ⟨s, hs, h1, h2⟩
              obtain ⟨j1, _, _⟩ := i1 s hs
              rcases j1 with ⟨_, j⟩ | j
              · omega
              · have := hlow _ j; omega
            · intro h
              obtain ⟨u, hu⟩ := i2 (by omega)
              obtain ⟨_, j2, _⟩ := i1 _ hu
              have := hge _ j2
              have := hf (by omega)
              exact ⟨(f, u), hu, by simp; omega, by simp at *; omega⟩
          · rw [c3 x (by omega), c4 x (by omega)]
            rw [show o + (lows r x : Int) - ((ups r x + 1 : Nat) : Int) = (o - 1) + lows r x - ups r x by omega]
            exact i3 x (by omega)
end Go.Proofs.Ytblneiegekdnjaa
