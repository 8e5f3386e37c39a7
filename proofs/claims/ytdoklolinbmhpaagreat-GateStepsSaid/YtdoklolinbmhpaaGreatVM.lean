/- Gate, part VM: between which numbers forces and steps are, for a gate without an error. -/
import Derived.Test.YtdoklolinbmhpaaGreatVB
set_option linter.all false
namespace Go.Proofs.YtdoklolinbmhpaaGreat
open Go.RowKit

theorem div_bd {n d A : Int} (hd : 1 ≤ d) (h1 : -(A * d) ≤ n) (h2 : n ≤ A * d) : -A ≤ n / d ∧ n / d ≤ A :=
  ⟨(Int.le_ediv_iff_mul_le (by omega)).2 (by rw [Int.neg_mul]; exact h1), Int.ediv_le_of_le_mul (by omega) h2⟩
theorem upq_bd {n d A : Int} (hd : 1 ≤ d) (h1 : -(A * d) ≤ n) (h2 : n ≤ A * d) : -A ≤ upq n d ∧ upq n d ≤ A := by
  have := div_bd (n := -n) (A := A) hd (by omega) (by omega)
  unfold upq; omega
theorem place_bd {g : Gt} (hg : GtGood g) {pos : Int} (hp : 0 ≤ pos ∧ pos < g.travel) :
    (0 ≤ pos * ((g.own.length : Int) - 1) ∧ pos * ((g.own.length : Int) - 1) ≤ 75000) ∧ (0 ≤ pos * ((g.own.length : Int) - 1) / g.travel ∧ pos * ((g.own.length : Int) - 1) / g.travel + 1 < g.own.length) ∧ 0 ≤ pos * ((g.own.length : Int) - 1) % g.travel ∧ pos * ((g.own.length : Int) - 1) % g.travel < g.travel := by
  have h1 := hg.travel; have h2 := hg.olen
  have h3 : 0 ≤ pos * ((g.own.length : Int) - 1) := Int.mul_nonneg hp.1 (by omega)
  have h4 : pos * ((g.own.length : Int) - 1) ≤ 5000 * 15 := Int.mul_le_mul (by omega) (by omega) (by omega) (by omega)
  refine ⟨⟨h3, by omega⟩, ⟨Int.ediv_nonneg h3 (by omega), ?_⟩, Int.emod_nonneg _ (by omega), Int.emod_lt_of_pos _ (by omega)⟩
  have : pos * ((g.own.length : Int) - 1) / g.travel < (g.own.length : Int) - 1 := Int.ediv_lt_of_lt_mul (by omega) (by
    rw [Int.mul_comm]; exact Int.mul_lt_mul_of_pos_left hp.2 (by omega))
  omega
theorem own_bd {g : Gt} (hg : GtGood g) {pos : Int} (hp : 0 ≤ pos ∧ pos ≤ g.travel) : -200000 ≤ ownF g pos ∧ ownF g pos ≤ 200000 := by
  have h2 := hg.olen
  unfold ownF
  split
  · exact hg.own _ (by omega)
  · rename_i hne
    obtain ⟨_, ⟨h3, h4⟩, h5, h6⟩ := place_bd hg (pos := pos) ⟨hp.1, by omega⟩
    exact (mix_bd (hg.own _ (by omega)) (hg.own _ (by omega)) hg.travel.1 ⟨h5, by omega⟩).1
theorem edge_bd {g : Gt} (hg : GtGood g) {pos : Int} (hp : 0 ≤ pos ∧ pos ≤ g.travel) : -20000 ≤ edgeF g pos ∧ edgeF g pos ≤ 20000 :=
  (mix_bd hg.open_ hg.shut hg.travel.1 hp).1
theorem below_bd {g : Gt} (hg : GtGood g) (pos lv : Int) : 0 ≤ belowF g pos lv ∧ belowF g pos lv ≤ 30000 := by
  have := hg.height
  unfold belowF; omega
theorem floatN_bd {g : Gt} (hg : GtGood g) (pos lv : Int) : (0 ≤ g.float * belowF g pos lv ∧ g.float * belowF g pos lv ≤ 300000000) ∧ -300000 ≤ g.float * belowF g pos lv / 1000 ∧ g.float * belowF g pos lv / 1000 ≤ 300000 := by
  have h1 := hg.float; have h2 := below_bd hg pos lv
  have h3 := Int.mul_nonneg h1.1 h2.1
  have h4 := mul_bd (a := g.float) (b := belowF g pos lv) (A := 10000) (B := 30000) (by omega) (by omega) (by omega) (by omega)
  exact ⟨⟨h3, by omega⟩, div_bd (A := 300000) (by decide) (by omega) (by omega)⟩
theorem float_bd {g : Gt} (hg : GtGood g) (pos o i : Int) : -300000 ≤ floatF g pos o i ∧ floatF g pos o i ≤ 300000 := by
  have := (floatN_bd hg pos (min o i)).2
  unfold floatF; split <;> omega
theorem push_bd {g : Gt} (hg : GtGood g) {o i : Int} (ho : -20000 ≤ o ∧ o ≤ 20000) (hi : -20000 ≤ i ∧ i ≤ 20000) : (-400000000 ≤ g.push * (o - i) ∧ g.push * (o - i) ≤ 400000000) ∧ -400000 ≤ g.push * (o - i) / 1000 ∧ g.push * (o - i) / 1000 ≤ 400000 := by
  have h1 := hg.push
  have h4 := mul_bd (a := g.push) (b := o - i) (A := 10000) (B := 40000) (by omega) (by omega) (by omega) (by omega)
  exact ⟨by omega, div_bd (A := 400000) (by decide) (by omega) (by omega)⟩
theorem close_bd {g : Gt} (hg : GtGood g) {pos o i : Int} (hp : 0 ≤ pos ∧ pos ≤ g.travel) (ho : -20000 ≤ o ∧ o ≤ 20000) (hi : -20000 ≤ i ∧ i ≤ 20000) : -900000 ≤ closeF g pos o i ∧ closeF g pos o i ≤ 900000 := by
  have h1 := own_bd hg hp; have h2 := float_bd hg pos o i; have h3 := (push_bd hg ho hi).2
  unfold closeF; omega
theorem slideN_bd {g : Gt} (hg : GtGood g) {pos o i : Int} (ho : -20000 ≤ o ∧ o ≤ 20000) (hi : -20000 ≤ i ∧ i ≤ 20000) :
    (0 ≤ g.slide * (max o i - min o i) ∧ g.slide * (max o i - min o i) ≤ 400000000) ∧ (0 ≤ g.slide * (max o i - min o i) * belowF g pos (max o i) ∧ g.slide * (max o i - min o i) * belowF g pos (max o i) ≤ 12000000000000) ∧ -12000000 ≤ upq (g.slide * (max o i - min o i) * belowF g pos (max o i)) 1000000 ∧ upq (g.slide * (max o i - min o i) * belowF g pos (max o i)) 1000000 ≤ 12000000 := by
  have h1 := hg.slide; have h2 := below_bd hg pos (max o i)
  have h3 : 0 ≤ g.slide * (max o i - min o i) := Int.mul_nonneg h1.1 (by omega)
  have h4 := mul_bd (a := g.slide) (b := max o i - min o i) (A := 10000) (B := 40000) (by omega) (by omega) (by omega) (by omega)
  have h5 := Int.mul_nonneg h3 h2.1
  have h6 := mul_bd (a := g.slide * (max o i - min o i)) (b := belowF g pos (max o i)) (A := 400000000) (B := 30000) (by omega) (by omega) (by omega) (by omega)
  exact ⟨⟨h3, by omega⟩, ⟨h5, by omega⟩, upq_bd (A := 12000000) (by decide) (by omega) (by omega)⟩
theorem upq_nonneg {n d : Int} (hn : 0 ≤ n) (hd : 1 ≤ d) : 0 ≤ upq n d := by
  have : (-n) / d ≤ 0 := Int.ediv_nonpos_of_nonpos_of_neg (by omega) (by omega)
  unfold upq; omega
theorem frict_bd {g : Gt} (hg : GtGood g) {pos o i : Int} (ho : -20000 ≤ o ∧ o ≤ 20000) (hi : -20000 ≤ i ∧ i ≤ 20000) : 0 ≤ frictF g pos o i ∧ frictF g pos o i ≤ 12200000 := by
  have h1 := slideN_bd (pos := pos) hg ho hi; have h2 := hg.sealN
  have h3 := upq_nonneg (d := 1000000) h1.2.1.1 (by decide)
  unfold frictF; omega

/-- A state, and levels, without an error. -/
structure StGood (g : Gt) (s : St) : Prop where
  pos : 0 ≤ s.pos ∧ s.pos ≤ g.travel
  charge : 0 ≤ s.charge ∧ s.charge ≤ g.cap
structure SpGood (t : Sp) : Prop where
  order : 0 ≤ t.order ∧ t.order ≤ 2
  outer : -20000 ≤ t.outer ∧ t.outer ≤ 20000
  inner : -20000 ≤ t.inner ∧ t.inner ≤ 20000
theorem stGood {g : Gt} {s : St} (h : stE g s = 0) : StGood g s := by
  unfold stE at h
  split at h
  · cases h
  · rename_i hn
    simp only [not_or, Bool.not_eq_false, inB_iff] at hn
    exact ⟨hn.1, hn.2⟩
theorem spGood {t : Sp} (h : ordE t = 0) : SpGood t := by
  unfold ordE at h
  split at h
  · cases h
  · rename_i hn
    split at h
    · cases h
    · rename_i hm
      simp only [not_or, Bool.not_eq_false, inB_iff] at hn hm
      exact ⟨hn, hm.1, hm.2⟩
theorem driven_bd {g : Gt} (hg : GtGood g) {charge cm : Int} (hc : 0 ≤ charge ∧ charge ≤ 100000) (h : 0 ≤ cm ∧ cm ≤ 5000) :
    (0 ≤ (drivenF g charge cm).1 ∧ (drivenF g charge cm).1 ≤ cm) ∧ 0 ≤ (drivenF g charge cm).2 ∧ (drivenF g charge cm).2 ≤ charge := by
  have hu := hg.use
  unfold drivenF
  simp only
  by_cases h0 : 0 < g.use
  · rw [if_pos h0]
    have q0 : 0 ≤ charge * 100 / g.use := Int.ediv_nonneg (by omega) (by omega)
    have hm : 0 ≤ min cm (charge * 100 / g.use) := by omega
    have q1 : min cm (charge * 100 / g.use) * g.use ≤ charge * 100 := by
      have := Int.mul_le_mul_of_nonneg_right (show min cm (charge * 100 / g.use) ≤ charge * 100 / g.use by omega) (show 0 ≤ g.use by omega)
      exact Int.le_trans this (Int.ediv_mul_le _ (by omega))
    have q2 : 0 ≤ min cm (charge * 100 / g.use) * g.use := Int.mul_nonneg hm (by omega)
    refine ⟨⟨hm, by omega⟩, upq_nonneg q2 (by decide), ?_⟩
    exact (upq_bd (A := charge) (by decide) (by omega) q1).2
  · rw [if_neg h0]
    have e : g.use = 0 := by omega
    rw [e, Int.mul_zero]
    have hz : upq 0 100 = 0 := by decide
    rw [hz]
    exact ⟨⟨h.1, Int.le_refl _⟩, Int.le_refl _, hc.1⟩
theorem follow_bd {g : Gt} (hg : GtGood g) {s : St} (hs : StGood g s) (t : Sp) (force : Int) {left : Int} (hl : 0 ≤ left ∧ left ≤ 5000) :
    (0 ≤ (followF g s t force left).1 ∧ (followF g s t force left).1 ≤ left ∧ (followF g s t force left).1 ≤ 100) ∧ 0 ≤ (followF g s t force left).2 ∧ (followF g s t force left).2 ≤ s.charge := by
  have h1 := hg.gravity; have h2 := hg.speed; have h3 := hs.charge; have h4 := hg.cap
  unfold followF
  split
  · simp only; omega
  · split
    · have := driven_bd hg (charge := s.charge) (cm := min g.speed left) (by omega) (by omega)
      omega
    · simp only; omega
theorem act_bd {g : Gt} (hg : GtGood g) {s : St} (hs : StGood g s) (t : Sp) :
    (0 ≤ s.pos + (actF g s t).1 ∧ s.pos + (actF g s t).1 ≤ g.travel) ∧ (-100 ≤ (actF g s t).1 ∧ (actF g s t).1 ≤ 100) ∧ 0 ≤ (actF g s t).2 ∧ (actF g s t).2 ≤ s.charge := by
  have h1 := hg.gravity; have h2 := hg.travel; have h3 := hs.charge; have h4 := hs.pos
  unfold actF
  split
  · simp only; omega
  · split
    · have := follow_bd hg hs t (closeF g s.pos t.outer t.inner) (left := g.travel - s.pos) (by omega)
      unfold closesF; omega
    · split
      · have := follow_bd hg hs t (-closeF g s.pos t.outer t.inner) (left := s.pos) (by omega)
        unfold opensF; simp only; omega
      · unfold holdsF
        split
        · simp only; omega
        · split <;> simp only <;> omega
theorem step_good {g : Gt} (hg : GtGood g) {s : St} (hs : StGood g s) (t : Sp) (lock : Int) : StGood g (stepF g s t lock).1 := by
  have h1 := act_bd hg hs (heldT t (refF s t lock)); have h2 := hg.pump; have h3 := hs.charge
  unfold stepF
  simp only
  refine ⟨h1.1, ?_⟩
  split <;> simp only <;> omega
end Go.Proofs.YtdoklolinbmhpaaGreat
