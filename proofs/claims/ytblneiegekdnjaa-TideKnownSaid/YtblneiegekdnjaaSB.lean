/- Tide, part SB: what some gauges say, how many say so of a level, Sound and Agree; as numbers. -/
import Derived.Test.YtblneiegekdnjaaTQ
import Derived.Test.YtblneiegekdnjaaSA
set_option linter.all false
namespace Go.Proofs.Ytblneiegekdnjaa
open Go.RowKit

/-- What a gauge says is a span of levels. -/
theorem sayP_bd {g : Gau} {t now : Int} (h : (sayP g t now).2 = 0) : -20000 ≤ (sayP g t now).1.1 ∧ (sayP g t now).1.1 ≤ (sayP g t now).1.2 ∧ (sayP g t now).1.2 ≤ 20000 := by
  unfold sayP at *
  obtain ⟨h1, h2, h3⟩ := sayOf_ok h
  rw [h3]
  have := sayFold_mono g t (g.rs.takeWhile fun r => decide (r.tick ≤ now)) (-20000, 20000)
  unfold sayFold at *
  simp only at *
  omega
abbrev Voice := Int × Int × Int
/-- What the first k gauges say, and which of them. -/
def voiceL (gs : List Gau) (t now : Int) : Nat → List Voice
  | 0 => []
  | k + 1 => voiceL gs t now k ++ (if (sayP (gs.getD k default) t now).2 = 0 then [((sayP (gs.getD k default) t now).1.1, (sayP (gs.getD k default) t now).1.2, (k : Int))] else [])
theorem voiceL_len (gs : List Gau) (t now : Int) : ∀ k, (voiceL gs t now k).length ≤ k
  | 0 => by simp [voiceL]
  | k + 1 => by
    have := voiceL_len gs t now k
    unfold voiceL
    rw [List.length_append]
    split <;> simp <;> omega
structure VoiceOk (v : Voice) : Prop where
  lo : -20000 ≤ v.1
  le : v.1 ≤ v.2.1
  hi : v.2.1 ≤ 20000
theorem voiceL_ok (gs : List Gau) (t now : Int) : ∀ k, ∀ v ∈ voiceL gs t now k, VoiceOk v ∧ ∃ i : Nat, i < k ∧ v = ((sayP (gs.getD i default) t now).1.1, (sayP (gs.getD i default) t now).1.2, (i : Int)) ∧ (sayP (gs.getD i default) t now).2 = 0
  | 0, v, h => by simp [voiceL] at h
  | k + 1, v, h => by
    unfold voiceL at h
    rcases List.mem_append.1 h with h | h
    · obtain ⟨a, i, b, c⟩ := voiceL_ok gs t now k v h
      exact ⟨a, i, by omega, c⟩
    · split at h
      · rename_i h0
        obtain rfl := List.mem_singleton.1 h
        obtain ⟨b1, b2, b3⟩ := sayP_bd h0
        exact ⟨⟨b1, b2, b3⟩, k, by omega, rfl, h0⟩
      · simp at h
theorem voiceL_mem (gs : List Gau) (t now : Int) : ∀ k i, i < k → (sayP (gs.getD i default) t now).2 = 0 → ((sayP (gs.getD i default) t now).1.1, (sayP (gs.getD i default) t now).1.2, (i : Int)) ∈ voiceL gs t now k
  | k + 1, i, h, h0 => by
    unfold voiceL
    by_cases e : i = k
    · subst e; rw [if_pos h0]; exact List.mem_append_right _ List.mem_cons_self
    · exact List.mem_append_left _ (voiceL_mem gs t now k i (by omega) h0)

/-- How many say of a level that it is possible. -/
def cnt (V : List Voice) (x : Int) : Nat := V.countP fun v => decide (v.1 ≤ x ∧ x ≤ v.2.1)
def hasB (g : Gau) (t now x : Int) : Bool := decide ((sayP g t now).2 = 0 ∧ (sayP g t now).1.1 ≤ x ∧ x ≤ (sayP g t now).1.2)
theorem hasB_iff {g : Gau} {t now x : Int} : hasB g t now x = true ↔ (sayP g t now).2 = 0 ∧ (sayP g t now).1.1 ≤ x ∧ x ≤ (sayP g t now).1.2 := by simp [hasB]
theorem cnt_snoc (gs : List Gau) (t now x : Int) (k : Nat) : cnt (voiceL gs t now (k + 1)) x = cnt (voiceL gs t now k) x + if hasB (gs.getD k default) t now x = true then 1 else 0 := by
  unfold cnt
  conv => lhs; rw [voiceL]
  rw [List.countP_append]
  congr 1
  by_cases h0 : (sayP (gs.getD k default) t now).2 = 0
  · rw [if_pos h0]
    by_cases h1 : (sayP (gs.getD k default) t now).1.1 ≤ x ∧ x ≤ (sayP (gs.getD k default) t now).1.2
    · rw [if_pos (hasB_iff.2 ⟨h0, h1⟩), List.countP_singleton, if_pos (decide_eq_true h1)]
    · rw [if_neg (fun h => h1 (hasB_iff.1 h).2)]
      rw [List.countP_singleton, if_neg (by simpa using h1)]
  · rw [if_neg h0, if_neg (fun h => h0 (hasB_iff.1 h).1)]; rfl
theorem cnt_le (V : List Voice) (x : Int) : cnt V x ≤ V.length := List.countP_le_length

/-- The ends of what is said. -/
def endsOf (V : List Voice) : List (Int × Int) := V.flatMap fun v => [(v.1, 0), (v.2.1, 1)]
theorem endsOf_cons (v : Voice) (V : List Voice) : endsOf (v :: V) = (v.1, 0) :: (v.2.1, 1) :: endsOf V := rfl
theorem endsOf_append (V U : List Voice) : endsOf (V ++ U) = endsOf V ++ endsOf U := by simp [endsOf]
theorem endsOf_len (V : List Voice) : (endsOf V).length = 2 * V.length := by
  induction V with
  | nil => rfl
  | cons v V ih => rw [endsOf_cons]; simp [ih]; omega
theorem endsOf_low (V : List Voice) (x : Int) : lows (endsOf V) x = V.countP fun v => decide (v.1 ≤ x) := by
  induction V with
  | nil => rfl
  | cons v V ih => rw [endsOf_cons]; simp [lows, List.countP_cons] at *; rw [ih]
theorem endsOf_up (V : List Voice) (x : Int) : ups (endsOf V) x = V.countP fun v => decide (v.2.1 < x) := by
  induction V with
  | nil => rfl
  | cons v V ih => rw [endsOf_cons]; simp [ups, List.countP_cons] at *; rw [ih]
theorem endsOf_all (V : List Voice) : allLow (endsOf V) = V.length ∧ allUp (endsOf V) = V.length := by
  induction V with
  | nil => exact ⟨rfl, rfl⟩
  | cons v V ih => rw [endsOf_cons]; simp [allLow, allUp, List.countP_cons] at *; rw [ih.1, ih.2]; simp
theorem endsOf_kind (V : List Voice) : ∀ e ∈ endsOf V, e.2 = 0 ∨ e.2 = 1 := by
  intro e he
  obtain ⟨v, _, h⟩ := List.mem_flatMap.1 he
  simp at h
  rcases h with rfl | rfl <;> simp
theorem endsOf_bd {V : List Voice} (h : ∀ v ∈ V, VoiceOk v) : ∀ e ∈ endsOf V, -20000 ≤ e.1 ∧ e.1 ≤ 20000 := by
  intro e he
  obtain ⟨v, hv, h'⟩ := List.mem_flatMap.1 he
  have := h v hv
  have h1 := this.lo; have h2 := this.le; have h3 := this.hi
  simp at h'
  rcases h' with rfl | rfl <;> simp <;> omega
theorem cnt_eq {V : List Voice} (h : ∀ v ∈ V, VoiceOk v) (x : Int) : ((V.countP fun v => decide (v.1 ≤ x) : Nat) : Int) - (V.countP fun v => decide (v.2.1 < x) : Nat) = cnt V x := by
  unfold cnt
  induction V with
  | nil => simp
  | cons v V ih =>
    have ih := ih fun u hu => h u (List.mem_cons_of_mem _ hu)
    have hv := (h v List.mem_cons_self).le
    simp only [List.countP_cons, decide_eq_true_eq]
    split <;> split <;> split <;> omega

/-- The spans in which at least n agree. -/
structure AgreedOk (V : List Voice) (n : Int) (F : List (Int × Int)) : Prop where
  ne : ∀ s ∈ F, s.1 ≤ s.2
  cov : ∀ x, (∃ s ∈ F, s.1 ≤ x ∧ x ≤ s.2) ↔ n ≤ cnt V x
  asc : F.Pairwise fun s t => s.2 < t.1
  bd : ∀ s ∈ F, -20000 ≤ s.1 ∧ s.2 ≤ 20000
theorem agreedOk {V : List Voice} (hV : ∀ v ∈ V, VoiceOk v) {n : Int} (hn : 1 ≤ n) {E : List (Int × Int)} (hp : E.Perm (endsOf V)) (hs : E.Pairwise EndLe) : AgreedOk V n (sweep n E 0 0) := by
  have key := fun cur hc => sweep_spec n hn E 0 0 cur hs (fun e he => endsOf_kind V e (hp.mem_iff.1 he)) hc (by omega) (by
    have := endsOf_all V
    unfold allLow allUp at *
    rw [hp.countP_eq, hp.countP_eq, this.1, this.2]; omega)
  have hb : ∀ e ∈ E, -20000 ≤ e.1 ∧ e.1 ≤ 20000 := fun e he => endsOf_bd hV e (hp.mem_iff.1 he)
  obtain ⟨a1, _, _, a4⟩ := key (-20000) (fun e he => (hb e he).1)
  refine ⟨fun s h => (a1 s h).2.2, fun x => ?_, a4, fun s h => ?_⟩
  · obtain ⟨_, _, a3, _⟩ := key (min x (-20000)) (fun e he => by have := (hb e he).1; omega)
    rw [a3 x (by omega)]
    have e1 : lows E x = lows (endsOf V) x := by unfold lows; exact hp.countP_eq _
    have e2 : ups E x = ups (endsOf V) x := by unfold ups; exact hp.countP_eq _
    rw [e1, e2, endsOf_low, endsOf_up, ← cnt_eq hV x]
    omega
  · obtain ⟨b1, b2, _⟩ := a1 s h
    have c2 := (hb _ b2).2
    rcases b1 with ⟨_, b⟩ | b
    · omega
    · have := (hb _ b).1; simp at *; omega

/-- What Sound says by what is said. -/
def SoundRes (V : List Voice) (n : Int) (r : (Int × Int) × Int) : Prop :=
  (r = ((0, 0), 9) ∧ ∀ x, ¬ n ≤ cnt V x) ∨ (r.2 = 0 ∧ n ≤ cnt V r.1.1 ∧ n ≤ cnt V r.1.2 ∧ ∀ x, n ≤ cnt V x → r.1.1 ≤ x ∧ x ≤ r.1.2)
theorem SoundRes.unique {V : List Voice} {n : Int} {r q : (Int × Int) × Int} (h : SoundRes V n r) (k : SoundRes V n q) : r = q := by
  rcases h with ⟨rfl, h⟩ | ⟨h0, h1, h2, h3⟩
  · rcases k with ⟨rfl, _⟩ | ⟨_, k1, _⟩
    · rfl
    · exact absurd k1 (h _)
  · rcases k with ⟨rfl, k⟩ | ⟨k0, k1, k2, k3⟩
    · exact absurd h1 (k _)
    · have a := h3 _ k1; have b := h3 _ k2; have c := k3 _ h1; have d := k3 _ h2
      refine Prod.ext (Prod.ext ?_ ?_) (by rw [h0, k0]) <;> omega
theorem agreed_first {V : List Voice} {n : Int} {F : List (Int × Int)} (h : AgreedOk V n F) : (F = [] ∧ ∀ x, ¬ n ≤ cnt V x) ∨ ∃ h0 : 0 < F.length, SoundRes V n ((F[0].1, F[F.length - 1].2), 0) := by
  by_cases h0 : F = []
  · exact .inl ⟨h0, fun x hx => by obtain ⟨s, hs, _⟩ := (h.cov x).2 hx; simp [h0] at hs⟩
  · have hl : 0 < F.length := List.length_pos_iff.2 h0
    have hpw := List.pairwise_iff_getElem.1 h.asc
    refine .inr ⟨hl, .inr ⟨rfl, ?_, ?_, fun x hx => ?_⟩⟩
    · exact (h.cov _).1 ⟨F[0], List.getElem_mem _, Int.le_refl _, h.ne _ (List.getElem_mem _)⟩
    · exact (h.cov _).1 ⟨F[F.length - 1], List.getElem_mem _, h.ne _ (List.getElem_mem _), Int.le_refl _⟩
    · obtain ⟨s, hs, h1, h2⟩ := (h.cov x).2 hx
      obtain ⟨i, hi, rfl⟩ := List.getElem_of_mem hs
      have n0 := h.ne _ (List.getElem_mem hl)
      have nl := h.ne F[F.length - 1] (List.getElem_mem _)
      refine ⟨?_, ?_⟩
      · by_cases e : i = 0
        · subst e; exact h1
        · have := hpw 0 i hl hi (by omega); simp only; omega
      · by_cases e : i = F.length - 1
        · subst e; exact h2
        · have := hpw i (F.length - 1) hi (by omega) (by omega); simp only; omega

/-- The greatest number that agree, and the gauges that do not. -/
structure ManyOk (V : List Voice) (m : Int) : Prop where
  most : ∀ x, (cnt V x : Int) ≤ m
  some : V = [] ∧ m = 0 ∨ ∃ x, (cnt V x : Int) = m
theorem ManyOk.unique {V : List Voice} {m k : Int} (h : ManyOk V m) (g : ManyOk V k) : m = k := by
  rcases h.some with ⟨h1, h2⟩ | ⟨x, hx⟩
  · rcases g.some with ⟨_, g2⟩ | ⟨y, hy⟩
    · rw [h2, g2]
    · have := h.most y; have := g.most 0; subst h1; simp [cnt] at *; omega
  · rcases g.some with ⟨g1, g2⟩ | ⟨y, hy⟩
    · have := g.most x; have := h.most 0; subst g1; simp [cnt] at *; omega
    · have := h.most y; have := g.most x; omega
/-- Is a gauge with the most? -/
noncomputable def withB (g : Gau) (t now : Int) (V : List Voice) (m : Int) : Bool := @decide (∃ x, (cnt V x : Int) = m ∧ hasB g t now x = true) (Classical.propDecidable _)
theorem withB_iff {g : Gau} {t now : Int} {V : List Voice} {m : Int} : withB g t now V m = true ↔ ∃ x, (cnt V x : Int) = m ∧ hasB g t now x = true := by
  unfold withB; exact @decide_eq_true_iff _ (Classical.propDecidable _)
/-- The gauges, of the first k, that are not with the most. -/
noncomputable def othersL (gs : List Gau) (t now : Int) (V : List Voice) (m : Int) : Nat → List Int
  | 0 => []
  | k + 1 => othersL gs t now V m k ++ (if withB (gs.getD k default) t now V m = true then [] else [(k : Int)])
theorem othersL_yes {gs : List Gau} {t now : Int} {V : List Voice} {m : Int} {k : Nat} (h : withB (gs.getD k default) t now V m = true) : othersL gs t now V m (k + 1) = othersL gs t now V m k := by
  rw [othersL, if_pos h, List.append_nil]
theorem othersL_no {gs : List Gau} {t now : Int} {V : List Voice} {m : Int} {k : Nat} (h : withB (gs.getD k default) t now V m = false) : othersL gs t now V m (k + 1) = othersL gs t now V m k ++ [(k : Int)] := by
  rw [othersL, if_neg (by rw [h]; decide)]
theorem othersL_len (gs : List Gau) (t now : Int) (V : List Voice) (m : Int) : ∀ k, (othersL gs t now V m k).length ≤ k
  | 0 => by simp [othersL]
  | k + 1 => by
    have := othersL_len gs t now V m k
    unfold othersL
    rw [List.length_append]
    split <;> simp <;> omega

/-! ### By the ends alone -/

theorem exists_most (f : Voice → Int) : ∀ (W : List Voice), W ≠ [] → ∃ v ∈ W, ∀ u ∈ W, f u ≤ f v
  | [], h => absurd rfl h
  | [v], _ => ⟨v, List.mem_cons_self, fun u hu => by rw [List.mem_singleton.1 hu]; exact Int.le_refl _⟩
  | v :: w :: W, _ => by
    obtain ⟨z, hz, h⟩ := exists_most f (w :: W) (by simp)
    by_cases e : f v ≤ f z
    · exact ⟨z, List.mem_cons_of_mem _ hz, fun u hu => by rcases List.mem_cons.1 hu with rfl | hu; exact e; exact h u hu⟩
    · exact ⟨v, List.mem_cons_self, fun u hu => by
        rcases List.mem_cons.1 hu with rfl | hu
        · exact Int.le_refl _
        · have := h u hu; omega⟩
/-- The greatest number that agree on a level agree on the lower end of one of them. -/
theorem low_end {V : List Voice} {x : Int} (h : 1 ≤ cnt V x) : ∃ v ∈ V, (v.1 ≤ x ∧ x ≤ v.2.1) ∧ (∀ u ∈ V, u.1 ≤ x → x ≤ u.2.1 → u.1 ≤ v.1 ∧ v.1 ≤ u.2.1) ∧ cnt V x ≤ cnt V v.1 := by
  have hne : V.filter (fun v => decide (v.1 ≤ x ∧ x ≤ v.2.1)) ≠ [] := by
    intro e
    unfold cnt at h
    rw [List.countP_eq_length_filter, e] at h
    simp at h
  obtain ⟨v, hv, hm⟩ := exists_most (fun v => v.1) _ hne
  obtain ⟨hv1, hv2⟩ := List.mem_filter.1 hv
  have hv2 := of_decide_eq_true hv2
  have k : ∀ u ∈ V, u.1 ≤ x → x ≤ u.2.1 → u.1 ≤ v.1 ∧ v.1 ≤ u.2.1 := fun u hu h1 h2 => by
    have := hm u (List.mem_filter.2 ⟨hu, decide_eq_true ⟨h1, h2⟩⟩)
    exact ⟨this, by omega⟩
  refine ⟨v, hv1, hv2, k, ?_⟩
  unfold cnt
  exact List.countP_mono_left fun u hu hx => by
    have := of_decide_eq_true hx
    exact decide_eq_true (k u hu this.1 this.2)
theorem high_end {V : List Voice} {x : Int} (h : 1 ≤ cnt V x) : ∃ v ∈ V, (v.1 ≤ x ∧ x ≤ v.2.1) ∧ cnt V x ≤ cnt V v.2.1 := by
  have hne : V.filter (fun v => decide (v.1 ≤ x ∧ x ≤ v.2.1)) ≠ [] := by
    intro e
    unfold cnt at h
    rw [List.countP_eq_length_filter, e] at h
    simp at h
  obtain ⟨v, hv, hm⟩ := exists_most (fun v => -v.2.1) _ hne
  obtain ⟨hv1, hv2⟩ := List.mem_filter.1 hv
  have hv2 := of_decide_eq_true hv2
  refine ⟨v, hv1, hv2, ?_⟩
  unfold cnt
  exact List.countP_mono_left fun u hu hx => by
    have h3 := of_decide_eq_true hx
    have := hm u (List.mem_filter.2 ⟨hu, hx⟩)
    exact decide_eq_true ⟨by omega, by omega⟩

/-- The ends, as they come. -/
def atsOf (V : List Voice) : List Int := V.flatMap fun v => [v.1, v.2.1]
theorem atsOf_append (V U : List Voice) : atsOf (V ++ U) = atsOf V ++ atsOf U := by simp [atsOf]
theorem atsOf_len (V : List Voice) : (atsOf V).length = 2 * V.length := by
  induction V with
  | nil => rfl
  | cons v V ih => have e : atsOf (v :: V) = v.1 :: v.2.1 :: atsOf V := rfl
                   rw [e]; simp [ih]; omega
theorem atsOf_mem {V : List Voice} {v : Voice} (h : v ∈ V) : v.1 ∈ atsOf V ∧ v.2.1 ∈ atsOf V :=
  ⟨List.mem_flatMap.2 ⟨v, h, by simp⟩, List.mem_flatMap.2 ⟨v, h, by simp⟩⟩
theorem atsOf_bd {V : List Voice} (h : ∀ v ∈ V, VoiceOk v) : ∀ a ∈ atsOf V, -20000 ≤ a ∧ a ≤ 20000 := by
  intro a ha
  obtain ⟨v, hv, h'⟩ := List.mem_flatMap.1 ha
  have := h v hv
  have h1 := this.lo; have h2 := this.le; have h3 := this.hi
  simp at h'
  rcases h' with rfl | rfl <;> omega
/-- What the reference has found by the first k ends. -/
def RefOut (V : List Voice) (n : Int) (A : List Int) (f : Bool) (lo hi : Int) : Prop :=
  (f = false ∧ ∀ a ∈ A, ¬ n ≤ cnt V a) ∨ (f = true ∧ n ≤ cnt V lo ∧ n ≤ cnt V hi ∧ ∀ a ∈ A, n ≤ cnt V a → lo ≤ a ∧ a ≤ hi)
theorem refOut_end {V : List Voice} {n : Int} (hn : 1 ≤ n) {f : Bool} {lo hi : Int} (h : RefOut V n (atsOf V) f lo hi) : SoundRes V n (if f = true then ((lo, hi), 0) else ((0, 0), 9)) := by
  rcases h with ⟨rfl, h⟩ | ⟨rfl, h1, h2, h3⟩
  · rw [if_neg (by decide)]
    refine .inl ⟨rfl, fun x hx => ?_⟩
    obtain ⟨v, hv, _, _, hc⟩ := low_end (V := V) (x := x) (by omega)
    exact h _ (atsOf_mem hv).1 (by omega)
  · rw [if_pos rfl]
    refine .inr ⟨rfl, h1, h2, fun x hx => ?_⟩
    obtain ⟨v, hv, hvx, _, hc⟩ := low_end (V := V) (x := x) (by omega)
    obtain ⟨u, hu, hux, hd⟩ := high_end (V := V) (x := x) (by omega)
    have a := h3 _ (atsOf_mem hv).1 (by omega)
    have b := h3 _ (atsOf_mem hu).2 (by omega)
    exact ⟨by simp only; omega, by simp only; omega⟩
theorem RefOut.snoc_no {V : List Voice} {n : Int} {A : List Int} {f : Bool} {lo hi x : Int} (h : RefOut V n A f lo hi) (hx : ¬ n ≤ cnt V x) : RefOut V n (A ++ [x]) f lo hi := by
  rcases h with ⟨rfl, h⟩ | ⟨rfl, h1, h2, h3⟩
  · exact .inl ⟨rfl, fun a ha => by rcases List.mem_append.1 ha with ha | ha; exact h a ha; rw [List.mem_singleton.1 ha]; exact hx⟩
  · exact .inr ⟨rfl, h1, h2, fun a ha => by rcases List.mem_append.1 ha with ha | ha; exact h3 a ha; rw [List.mem_singleton.1 ha]; exact fun h => absurd h hx⟩
theorem RefOut.snoc_first {V : List Voice} {n : Int} {A : List Int} {lo hi x : Int} (h : RefOut V n A false lo hi) (hx : n ≤ cnt V x) : RefOut V n (A ++ [x]) true (min x x) (max x x) := by
  rcases h with ⟨_, h⟩ | ⟨h, _⟩
  · refine .inr ⟨rfl, by rwa [show min x x = x by omega], by rwa [show max x x = x by omega], fun a ha hc => ?_⟩
    rcases List.mem_append.1 ha with ha | ha
    · exact absurd hc (h a ha)
    · rw [List.mem_singleton.1 ha]; omega
  · cases h
theorem RefOut.snoc_more {V : List Voice} {n : Int} {A : List Int} {lo hi x : Int} (h : RefOut V n A true lo hi) (hx : n ≤ cnt V x) : RefOut V n (A ++ [x]) true (min lo x) (max hi x) := by
  rcases h with ⟨h, _⟩ | ⟨_, h1, h2, h3⟩
  · cases h
  · refine .inr ⟨rfl, ?_, ?_, fun a ha hc => ?_⟩
    · rcases Int.le_total lo x with h | h
      · rwa [show min lo x = lo by omega]
      · rwa [show min lo x = x by omega]
    · rcases Int.le_total hi x with h | h
      · rwa [show max hi x = x by omega]
      · rwa [show max hi x = hi by omega]
    · rcases List.mem_append.1 ha with ha | ha
      · have := h3 a ha hc; omega
      · rw [List.mem_singleton.1 ha]; omega
/-- The greatest number, by the ends. -/
theorem many_ends {V : List Voice} {m : Int} (h0 : 0 ≤ m) (h : ∀ a ∈ atsOf V, (cnt V a : Int) ≤ m) (hs : m = 0 ∨ ∃ a ∈ atsOf V, (cnt V a : Int) = m) : ManyOk V m := by
  have hmost : ∀ x, (cnt V x : Int) ≤ m := fun x => by
    by_cases h1 : 1 ≤ cnt V x
    · obtain ⟨v, hv, _, _, hc⟩ := low_end h1
      have := h _ (atsOf_mem hv).1
      omega
    · omega
  refine ⟨hmost, ?_⟩
  rcases hs with hs | ⟨a, _, ha⟩
  · match V with
    | [] => exact .inl ⟨rfl, hs⟩
    | v :: V =>
      right
      refine ⟨v.2.1 + v.1, ?_⟩
      have := hmost (v.2.1 + v.1); omega
  · exact .inr ⟨a, ha⟩
/-- A gauge is with the most exactly if it has an end on which the most agree. -/
theorem with_ends {gs : List Gau} {t now : Int} {n : Nat} {m : Int} (hm : ManyOk (voiceL gs t now n) m) {i : Nat} (hi : i < n) :
    (∃ a ∈ atsOf (voiceL gs t now n), (cnt (voiceL gs t now n) a : Int) = m ∧ hasB (gs.getD i default) t now a = true) ↔ ∃ x, (cnt (voiceL gs t now n) x : Int) = m ∧ hasB (gs.getD i default) t now x = true := by
  constructor
  · rintro ⟨a, _, h⟩; exact ⟨a, h⟩
  · rintro ⟨x, h1, h2⟩
    obtain ⟨k0, k1, k2⟩ := hasB_iff.1 h2
    have hmem := voiceL_mem gs t now n i hi k0
    have hpos : 1 ≤ cnt (voiceL gs t now n) x := by
      unfold cnt
      rw [Nat.succ_le_iff, List.countP_pos_iff]
      exact ⟨_, hmem, decide_eq_true ⟨k1, k2⟩⟩
    obtain ⟨v, hv, _, hk, hc⟩ := low_end hpos
    have hw := hk _ hmem k1 k2
    have := hm.most v.1
    exact ⟨v.1, (atsOf_mem hv).1, by omega, hasB_iff.2 ⟨k0, hw.1, hw.2⟩⟩
end Go.Proofs.Ytblneiegekdnjaa
