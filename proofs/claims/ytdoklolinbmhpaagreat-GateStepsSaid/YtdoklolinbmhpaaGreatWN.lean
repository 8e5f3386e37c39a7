/- Gate, part WN: steps one after the other (mathematics). -/
import Derived.Test.YtdoklolinbmhpaaGreatWM
set_option linter.all false
namespace Go.Proofs.YtdoklolinbmhpaaGreat
open Go.RowKit

/-- The state after so many steps of one kind. -/
def itF (g : Gt) (t : Sp) : Nat → St → St
  | 0, s => s
  | k + 1, s => itF g t k (stepF g s t 0).1
theorem itF_succ (g : Gt) (t : Sp) : ∀ k s, itF g t (k + 1) s = (stepF g (itF g t k s) t 0).1
  | 0, s => rfl
  | k + 1, s => itF_succ g t k (stepF g s t 0).1
theorem itF_good {g : Gt} (hg : GtGood g) (t : Sp) {s : St} (hs : StGood g s) : ∀ k, StGood g (itF g t k s)
  | 0 => hs
  | k + 1 => by rw [itF_succ]; exact step_good hg (itF_good hg t hs k) t 0
theorem lockF_none (i : Nat) (ss : List St) : lockF [] i ss false = 0 := by
  unfold lockF; rw [if_neg (by simp)]; rfl
theorem next_one (g : Gt) (t : Sp) (s : St) : nextF [g] [] [s] [t] [false] = [(stepF g s t 0).1] := by
  unfold nextF
  simp only [List.length_cons, List.length_nil, Nat.zero_add, List.range_one, List.map_cons, List.map_nil]
  unfold moveF
  rw [show ([false].getD 0 false) = false from rfl, lockF_none]
  rfl
theorem shut_one (g : Gt) (s : St) : shutB [g] [s] = decide (s.pos = g.travel) := by
  unfold shutB
  simp
theorem search_one (g : Gt) (t : Sp) : ∀ (f n : Nat) (s : St),
    (∃ j, j ≤ f ∧ (itF g t j s).pos = g.travel ∧ (∀ i, i < j → (itF g t i s).pos ≠ g.travel) ∧ searchF [g] [] [t] [false] n f [s] = (((n + j : Nat) : Int), 0)) ∨
    ((∀ i, i ≤ f → (itF g t i s).pos ≠ g.travel) ∧ searchF [g] [] [t] [false] n f [s] = (0, 9))
  | 0, n, s => by
    unfold searchF
    rw [shut_one]
    by_cases h : s.pos = g.travel
    · left; exact ⟨0, Nat.le_refl _, h, fun i hi => by omega, by rw [if_pos (by simpa using h)]; rfl⟩
    · right; exact ⟨fun i hi => by obtain rfl : i = 0 := by omega
                                   exact h, by rw [if_neg (by simpa using h)]⟩
  | f + 1, n, s => by
    unfold searchF
    rw [shut_one, next_one]
    by_cases h : s.pos = g.travel
    · left; exact ⟨0, Nat.zero_le _, h, fun i hi => by omega, by rw [if_pos (by simpa using h)]; rfl⟩
    · rw [if_neg (by simpa using h)]
      rcases search_one g t f (n + 1) (stepF g s t 0).1 with ⟨j, h1, h2, h3, h4⟩ | ⟨h1, h2⟩
      · left
        refine ⟨j + 1, by omega, h2, fun i hi => ?_, ?_⟩
        · cases i with
          | zero => exact h
          | succ i => exact h3 i (by omega)
        · rw [h4]; congr 2; omega
      · right
        refine ⟨fun i hi => ?_, h2⟩
        cases i with
        | zero => exact h
        | succ i => exact h1 i (by omega)
/-- A gate that is shut stays so under the order to close. -/
theorem shut_stays {g : Gt} (hg : GtGood g) {s : St} (hs : StGood g s) (o i : Int) (p : Bool) (h : s.pos = g.travel) : (stepF g s (toCloseT o i p) 0).1.pos = g.travel := by
  by_cases hb : s.bolted = true
  · rw [(step_bolted g _ 0 hb).2.1, h]
  · have hr : refF s (toCloseT o i p) 0 = 0 := by
      unfold refF toCloseT; simp [hb]
    have h2 := hg.travel
    have hf := follow_bd hg hs (toCloseT o i p) (closeF g s.pos (toCloseT o i p).outer (toCloseT o i p).inner) (left := g.travel - s.pos) (by omega)
    unfold stepF
    simp only [hr]
    rw [show heldT (toCloseT o i p) 0 = toCloseT o i p from rfl]
    have ha : actF g s (toCloseT o i p) = closesF g s (toCloseT o i p) := by
      unfold actF; rw [if_neg hb, if_pos (show (toCloseT o i p).order = 1 from rfl)]
    rw [ha]
    unfold closesF
    omega
theorem it_stays {g : Gt} (hg : GtGood g) {s : St} (hs : StGood g s) (o i : Int) (p : Bool) {j k : Nat} (hjk : j ≤ k) (h : (itF g (toCloseT o i p) j s).pos = g.travel) : (itF g (toCloseT o i p) k s).pos = g.travel := by
  induction k with
  | zero => obtain rfl : j = 0 := by omega
            exact h
  | succ k ih =>
    by_cases e : j = k + 1
    · subst e; exact h
    · rw [itF_succ]
      exact shut_stays hg (itF_good hg _ hs k) o i p (ih (by omega))

/-! ### Runs -/
def scanF (g : Gt) : St → List Sp → List St
  | _, [] => []
  | s, t :: r => (stepF g s t 0).1 :: scanF g (stepF g s t 0).1 r
def lastF (g : Gt) : St → List Sp → St
  | s, [] => s
  | s, t :: r => lastF g (stepF g s t 0).1 r
def runE (g : Gt) (s : St) (l : List Sp) : Int := (firstAt 0 [(0, gtE g), mustP (decide ((l.length : Int) ≤ 2000)) 0 3, (0, stE g s), eachP (fun i => ordE (l.getD i default)) 0 l.length]).2.2
theorem scan_len (g : Gt) : ∀ (l : List Sp) (s : St), (scanF g s l).length = l.length
  | [], s => rfl
  | t :: r, s => by simp [scanF, scan_len g r]
theorem scan_append (g : Gt) (b : List Sp) : ∀ (a : List Sp) (s : St), scanF g s (a ++ b) = scanF g s a ++ scanF g (lastF g s a) b
  | [], s => rfl
  | t :: r, s => by simp [scanF, lastF, scan_append g b r]
theorem last_append (g : Gt) (b : List Sp) : ∀ (a : List Sp) (s : St), lastF g s (a ++ b) = lastF g (lastF g s a) b
  | [], s => rfl
  | t :: r, s => by simp [lastF, last_append g b r]
theorem scan_last (g : Gt) : ∀ (l : List Sp) (s : St), l ≠ [] → (scanF g s l).getD (l.length - 1) default = lastF g s l
  | [], s, h => absurd rfl h
  | [t], s, _ => rfl
  | t :: u :: r, s, _ => by
    have := scan_last g (u :: r) (stepF g s t 0).1 (by simp)
    simp only [List.length_cons] at this ⊢
    rw [show r.length + 1 + 1 - 1 = (r.length + 1 - 1) + 1 by omega]
    unfold scanF lastF
    rw [List.getD_cons_succ]
    exact this
theorem last_good {g : Gt} (hg : GtGood g) : ∀ (l : List Sp) {s : St}, StGood g s → StGood g (lastF g s l)
  | [], s, h => h
  | t :: r, s, h => last_good hg r (step_good hg h t 0)
theorem scan_get (g : Gt) : ∀ (l : List Sp) (s : St) (k : Nat), k < l.length → (scanF g s l).getD k default = lastF g s (l.take (k + 1))
  | [], s, k, h => by simp at h
  | t :: r, s, 0, h => rfl
  | t :: r, s, k + 1, h => by
    have := scan_get g r (stepF g s t 0).1 k (by simpa using h)
    unfold scanF
    rw [List.getD_cons_succ, this]
    rfl
theorem last_replicate (g : Gt) (t : Sp) : ∀ (k : Nat) (s : St), lastF g s (List.replicate k t) = itF g t k s
  | 0, s => rfl
  | k + 1, s => by rw [List.replicate_succ]; exact last_replicate g t k _
theorem last_bolted (g : Gt) : ∀ (l : List Sp) (s : St), s.bolted = true → (lastF g s l).bolted = true ∧ (lastF g s l).pos = s.pos
  | [], s, h => ⟨h, rfl⟩
  | t :: r, s, h => by
    have h1 := step_bolted g t 0 h
    have h2 := last_bolted g r _ h1.2.2
    exact ⟨h2.1, h2.2.trans h1.2.1⟩
theorem scan_bolted (g : Gt) (l : List Sp) {s : St} (h : s.bolted = true) {k : Nat} (hk : k < l.length) : ((scanF g s l).getD k default).bolted = true ∧ ((scanF g s l).getD k default).pos = s.pos := by
  rw [scan_get g l s k hk]; exact last_bolted g _ s h

/-! ### A gate that falls -/
/-- If a gate falls from each position, it goes Gravity cm on in each step. -/
theorem fall_step {g : Gt} (hg : GtGood g) {s : St} (hs : StGood g s) (hb : s.bolted = false) (o i : Int) (p : Bool) (hf : ∀ x, 0 ≤ x → x < g.travel → frictF g x o i < closeF g x o i) :
    (stepF g s (toCloseT o i p) 0).1.pos = min g.travel (s.pos + g.gravity) ∧ (stepF g s (toCloseT o i p) 0).1.bolted = false := by
  have hr : refF s (toCloseT o i p) 0 = 0 := by
    unfold refF toCloseT; simp [hb]
  have h1 := hg.gravity; have h2 := hs.pos; have h3 := hg.travel
  have ha : actF g s (toCloseT o i p) = closesF g s (toCloseT o i p) := by
    unfold actF; rw [hb, if_neg (by decide), if_pos (show (toCloseT o i p).order = 1 from rfl)]
  unfold stepF
  simp only [hr]
  rw [show heldT (toCloseT o i p) 0 = toCloseT o i p from rfl, ha]
  refine ⟨?_, hb⟩
  by_cases hp : s.pos < g.travel
  · have := hf s.pos h2.1 hp
    unfold closesF followF toCloseT
    simp only
    rw [if_pos this]
    simp only
    omega
  · have hf := follow_bd hg hs (toCloseT o i p) (closeF g s.pos (toCloseT o i p).outer (toCloseT o i p).inner) (left := g.travel - s.pos) (by omega)
    unfold closesF
    omega
theorem fall_it {g : Gt} (hg : GtGood g) {s : St} (hs : StGood g s) (hb : s.bolted = false) (o i : Int) (p : Bool) (hf : ∀ x, 0 ≤ x → x < g.travel → frictF g x o i < closeF g x o i) :
    ∀ k : Nat, (itF g (toCloseT o i p) k s).pos = min g.travel (s.pos + k * g.gravity) ∧ (itF g (toCloseT o i p) k s).bolted = false
  | 0 => ⟨by have := hs.pos; show s.pos = _; simp; omega, hb⟩
  | k + 1 => by
    obtain ⟨h1, h2⟩ := fall_it hg hs hb o i p hf k
    rw [itF_succ]
    obtain ⟨h3, h4⟩ := fall_step hg (itF_good hg _ hs k) h2 o i p hf
    refine ⟨?_, h4⟩
    rw [h3, h1]
    have h5 := hg.gravity
    rw [show ((k + 1 : Nat) : Int) * g.gravity = k * g.gravity + g.gravity by rw [Int.natCast_add, Int.add_mul]; simp]
    generalize (k : Int) * g.gravity = z
    omega
/-- Its Time is what Gravity goes into what is left, rounded up. -/
theorem fall_time {g : Gt} (hg : GtGood g) {s : St} (hs : StGood g s) (hb : s.bolted = false) (o i : Int) (p : Bool) (hf : ∀ x, 0 ≤ x → x < g.travel → frictF g x o i < closeF g x o i) :
    searchF [g] [] [toCloseT o i p] [false] 0 2000 [s] = if 2000 < (g.travel - s.pos + g.gravity - 1) / g.gravity then (0, 9) else ((g.travel - s.pos + g.gravity - 1) / g.gravity, 0) := by
  have h1 := hg.gravity; have h2 := hs.pos
  obtain ⟨m, hm⟩ : ∃ m : Nat, (g.travel - s.pos + g.gravity - 1) / g.gravity = (m : Int) := by
    have : 0 ≤ (g.travel - s.pos + g.gravity - 1) / g.gravity := Int.ediv_nonneg (by omega) (by omega)
    exact ⟨_, (Int.toNat_of_nonneg this).symm⟩
  have hq1 : (m : Int) * g.gravity ≤ g.travel - s.pos + g.gravity - 1 := by rw [← hm]; exact Int.ediv_mul_le _ (by omega)
  have hq2 : g.travel - s.pos + g.gravity - 1 < ((m : Int) + 1) * g.gravity := by rw [← hm]; exact Int.lt_ediv_add_one_mul_self _ (by omega)
  rw [Int.add_mul, Int.one_mul] at hq2
  have it := fall_it hg hs hb o i p hf
  have at_ : ∀ k : Nat, (itF g (toCloseT o i p) k s).pos = g.travel ↔ m ≤ k := by
    intro k
    rw [(it k).1]
    constructor
    · intro h
      have h3 : g.travel ≤ s.pos + k * g.gravity := by omega
      rcases Nat.lt_or_ge k m with hlt | hge
      · exfalso
        have : ((k : Int) + 1) * g.gravity ≤ (m : Int) * g.gravity := Int.mul_le_mul_of_nonneg_right (by omega) (by omega)
        rw [Int.add_mul, Int.one_mul] at this
        omega
      · exact hge
    · intro h
      have : (m : Int) * g.gravity ≤ (k : Int) * g.gravity := Int.mul_le_mul_of_nonneg_right (by omega) (by omega)
      omega
  rw [hm]
  rcases search_one g (toCloseT o i p) 2000 0 s with ⟨j, a1, a2, a3, a4⟩ | ⟨a1, a2⟩
  · have hj := (at_ j).1 a2
    have hmj : m = j := by
      rcases Nat.lt_or_ge m j with hlt | hge
      · exact absurd ((at_ m).2 (Nat.le_refl _)) (a3 m hlt)
      · omega
    rw [if_neg (by omega), a4, hmj]; simp
  · have : ¬ m ≤ 2000 := fun hle => a1 2000 (Nat.le_refl _) ((at_ 2000).2 hle)
    rw [if_pos (by omega), a2]
theorem fall_of {g : Gt} {o i : Int} (h : fallF g o i < 0) : ∀ x, 0 ≤ x → x < g.travel → frictF g x o i < closeF g x o i := by
  intro x h0 h1
  have := idxP_none h x.toNat (Nat.zero_le _) (by omega)
  simp only [decide_eq_false_iff_not] at this
  rw [Int.toNat_of_nonneg h0] at this
  omega
/-- Where it does not fall, it does not go on. -/
theorem fall_at {g : Gt} {o i : Int} {p : Int} (hp : 0 ≤ p) (h : fallF g o i = p) : p < g.travel ∧ closeF g p o i ≤ frictF g p o i := by
  have := idxP_at (f := fun k => decide (closeF g k o i ≤ frictF g k o i)) (k := 0) (n := g.travel.toNat) (j := p.toNat) (by rw [Int.toNat_of_nonneg hp]; exact h)
  obtain ⟨_, h2, h3, _⟩ := this
  simp only [decide_eq_true_eq] at h3
  rw [Int.toNat_of_nonneg hp] at h3
  exact ⟨by omega, h3⟩
theorem fall_rest {g : Gt} (hg : GtGood g) {o i p : Int} (hp : 0 ≤ p ∧ p ≤ g.travel) (h : closeF g p o i ≤ frictF g p o i) : (stepF g ⟨p, 0, false⟩ (toCloseT o i false) 0).1.pos = p := by
  have hr : refF ⟨p, 0, false⟩ (toCloseT o i false) 0 = 0 := rfl
  unfold stepF
  simp only [hr]
  rw [show heldT (toCloseT o i false) 0 = toCloseT o i false from rfl]
  have ha : actF g ⟨p, 0, false⟩ (toCloseT o i false) = (0, 0) := by
    unfold actF closesF followF toCloseT
    simp only
    rw [if_neg (by decide), if_pos (by decide), if_neg (by omega), if_neg (by simp)]
  rw [ha]; simp
theorem fall_range {g : Gt} (hg : GtGood g) (o i : Int) : -1 ≤ fallF g o i ∧ fallF g o i < g.travel := by
  have h1 := hg.travel
  have := idxP_range (f := fun k => decide (closeF g k o i ≤ frictF g k o i)) (k := 0) (n := g.travel.toNat)
  unfold fallF
  omega

/-! ### All gates of a set without rules -/
theorem next_free (gs : List Gt) (ss : List St) (t : Sp) (hl : ss.length = gs.length) :
    nextF gs [] ss (List.replicate gs.length t) (List.replicate gs.length false) = (List.range gs.length).map fun i => (stepF (gs.getD i default) (ss.getD i default) t 0).1 := by
  unfold nextF
  refine List.map_congr_left fun i hi => ?_
  have hi' := List.mem_range.1 hi
  unfold moveF
  rw [show (List.replicate gs.length false).getD i false = false by simp [List.getD, hi'], lockF_none, show (List.replicate gs.length t).getD i default = t by simp [List.getD, hi']]
def vecF (gs : List Gt) (t : Sp) (j : Nat) (ss : List St) : List St := (List.range gs.length).map fun i => itF (gs.getD i default) t j (ss.getD i default)
theorem vec_get (gs : List Gt) (t : Sp) (j : Nat) (ss : List St) {i : Nat} (hi : i < gs.length) : (vecF gs t j ss).getD i default = itF (gs.getD i default) t j (ss.getD i default) := by
  unfold vecF; simp [List.getD, hi]
theorem vec_zero (gs : List Gt) (t : Sp) (ss : List St) (hl : ss.length = gs.length) : vecF gs t 0 ss = ss := by
  unfold vecF
  refine List.ext_getElem (by simp [hl]) fun i h1 h2 => ?_
  simp [itF, List.getD, h2]
theorem next_vec (gs : List Gt) (t : Sp) (j : Nat) (ss : List St) : nextF gs [] (vecF gs t j ss) (List.replicate gs.length t) (List.replicate gs.length false) = vecF gs t (j + 1) ss := by
  rw [next_free gs _ t (by simp [vecF])]
  unfold vecF
  refine List.map_congr_left fun i hi => ?_
  have hi' := List.mem_range.1 hi
  rw [itF_succ]
  rw [show ((List.range gs.length).map fun i => itF (gs.getD i default) t j (ss.getD i default)).getD i default = itF (gs.getD i default) t j (ss.getD i default) by simp [List.getD, hi']]
theorem shut_vec (gs : List Gt) (t : Sp) (j : Nat) (ss : List St) : shutB gs (vecF gs t j ss) = true ↔ ∀ i, i < gs.length → (itF (gs.getD i default) t j (ss.getD i default)).pos = (gs.getD i default).travel := by
  unfold shutB
  rw [List.all_eq_true]
  constructor
  · intro h i hi
    have := h i (List.mem_range.2 hi)
    rw [vec_get gs t j ss hi] at this
    simpa using this
  · intro h i hi
    rw [vec_get gs t j ss (List.mem_range.1 hi)]
    simpa using h i (List.mem_range.1 hi)
theorem search_free (gs : List Gt) (t : Sp) (ss : List St) : ∀ (f n j : Nat),
    (∃ k, k ≤ f ∧ shutB gs (vecF gs t (j + k) ss) = true ∧ (∀ i, i < k → shutB gs (vecF gs t (j + i) ss) = false) ∧ searchF gs [] (List.replicate gs.length t) (List.replicate gs.length false) n f (vecF gs t j ss) = (((n + k : Nat) : Int), 0)) ∨
    ((∀ i, i ≤ f → shutB gs (vecF gs t (j + i) ss) = false) ∧ searchF gs [] (List.replicate gs.length t) (List.replicate gs.length false) n f (vecF gs t j ss) = (0, 9))
  | 0, n, j => by
    unfold searchF
    cases h : shutB gs (vecF gs t j ss)
    · right; exact ⟨fun i hi => by obtain rfl : i = 0 := by omega
                                   exact h, by simp⟩
    · left; exact ⟨0, Nat.le_refl _, h, fun i hi => by omega, by simp⟩
  | f + 1, n, j => by
    unfold searchF
    cases h : shutB gs (vecF gs t j ss)
    · simp only [Bool.false_eq_true, if_false]
      rw [next_vec]
      rcases search_free gs t ss f (n + 1) (j + 1) with ⟨k, h1, h2, h3, h4⟩ | ⟨h1, h2⟩
      · left
        refine ⟨k + 1, by omega, by rw [show j + (k + 1) = j + 1 + k by omega]; exact h2, fun i hi => ?_, by rw [h4]; congr 2; omega⟩
        cases i with
        | zero => exact h
        | succ i => rw [show j + (i + 1) = j + 1 + i by omega]; exact h3 i (by omega)
      · right
        refine ⟨fun i hi => ?_, h2⟩
        cases i with
        | zero => exact h
        | succ i => rw [show j + (i + 1) = j + 1 + i by omega]; exact h1 i (by omega)
    · left; exact ⟨0, Nat.zero_le _, h, fun i hi => by omega, by simp⟩
end Go.Proofs.YtdoklolinbmhpaaGreat
