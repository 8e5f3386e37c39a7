/- Gate, part CM: how the reference drives and moves a gate (mathematics). -/
import Derived.Test.YtdoklolinbmhpaaGreatWN
set_option linter.all false
namespace Go.Proofs.YtdoklolinbmhpaaGreat
open Go.RowKit

/-- The oil for so many cm. -/
def usedN (g : Gt) (d : Int) : Int := (d * g.use + 99) / 100
/-- How the reference drives a gate: the greatest way for which there is oil. -/
theorem rdriven_math {g : Gt} (hg : GtGood g) {charge cm : Int} (hc : 0 ≤ charge ∧ charge ≤ 100000) (h : 0 ≤ cm ∧ cm ≤ 5000) :
    (0 ≤ (drivenF g charge cm).1 ∧ (drivenF g charge cm).1 ≤ cm) ∧ usedN g (drivenF g charge cm).1 ≤ charge ∧ (∀ d, (drivenF g charge cm).1 < d → d ≤ cm → charge < usedN g d) ∧ (drivenF g charge cm).2 = usedN g (drivenF g charge cm).1 := by
  have hb := driven_bd hg hc h
  have hu := hg.use
  have e2 : (drivenF g charge cm).2 = usedN g (drivenF g charge cm).1 := by
    unfold drivenF usedN; simp only; rw [upq_100]
  refine ⟨hb.1, by rw [← e2]; exact hb.2.2, fun d h1 h2 => ?_, e2⟩
  unfold drivenF at h1
  simp only at h1
  by_cases h0 : 0 < g.use
  · rw [if_pos h0] at h1
    have hq : charge * 100 / g.use < d := by omega
    have h3 := Int.lt_ediv_add_one_mul_self (charge * 100) h0
    have h4 : (charge * 100 / g.use + 1) * g.use ≤ d * g.use := Int.mul_le_mul_of_nonneg_right (by omega) (by omega)
    unfold usedN
    omega
  · rw [if_neg h0] at h1; omega
/-- What the reference moves. -/
def movF (g : Gt) (s : St) (t : Sp) : Int × Int := actF g s t
theorem held_neg {g : Gt} (hg : GtGood g) {s : St} (hs : StGood g s) {t : Sp} (ht : SpGood t) (hb : s.bolted = false) (ho : t.order = 0) (hn : closeF g s.pos t.outer t.inner < 0) :
    actF g s t = if g.brake + frictF g s.pos t.outer t.inner < -closeF g s.pos t.outer t.inner then (-min g.gravity s.pos, 0) else (0, 0) := by
  have h1 := hg.brake; have h2 := frict_bd (pos := s.pos) hg ht.outer ht.inner
  unfold actF holdsF
  rw [hb, if_neg (by simp), if_neg (by omega), if_neg (by omega), if_neg (by omega)]
theorem held_pos {g : Gt} (hg : GtGood g) {s : St} (hs : StGood g s) {t : Sp} (ht : SpGood t) (hb : s.bolted = false) (ho : t.order = 0) (hn : ¬ closeF g s.pos t.outer t.inner < 0) :
    actF g s t = if g.brake + frictF g s.pos t.outer t.inner < closeF g s.pos t.outer t.inner then (min g.gravity (g.travel - s.pos), 0) else (0, 0) := by
  have h1 := hg.brake; have h2 := frict_bd (pos := s.pos) hg ht.outer ht.inner
  unfold actF holdsF
  rw [hb, if_neg (by simp), if_neg (by omega), if_neg (by omega)]
  split
  · rfl
  · rw [if_neg (by omega)]
theorem act_close {g : Gt} {s : St} {t : Sp} (hb : s.bolted = false) (ho : t.order = 1) : actF g s t = followF g s t (closeF g s.pos t.outer t.inner) (g.travel - s.pos) := by
  unfold actF closesF
  rw [hb, if_neg (by simp), if_pos ho]
theorem act_open {g : Gt} {s : St} {t : Sp} (hb : s.bolted = false) (ho : t.order = 2) : actF g s t = (-(followF g s t (-closeF g s.pos t.outer t.inner) s.pos).1, (followF g s t (-closeF g s.pos t.outer t.inner) s.pos).2) := by
  unfold actF opensF
  rw [hb, if_neg (by simp), if_neg (by omega), if_pos ho]
theorem act_bolted {g : Gt} {s : St} {t : Sp} (hb : s.bolted = true) : actF g s t = (0, 0) := by unfold actF; rw [if_pos hb]

/-- A step that is done, with a reason why its order is refused. -/
def stpF (g : Gt) (s : St) (t : Sp) (r : Int) : St × Int × Int × Int :=
  (⟨s.pos + (actF g s (heldT t r)).1, if t.power = true then min (s.charge - (actF g s (heldT t r)).2 + g.pump) g.cap else s.charge - (actF g s (heldT t r)).2, s.bolted⟩, r, (actF g s (heldT t r)).1, (actF g s (heldT t r)).2)
theorem step_stp (g : Gt) (s : St) (t : Sp) (lock : Int) : stepF g s t lock = stpF g s t (refF s t lock) := rfl
theorem held_good {t : Sp} (r : Int) (h : SpGood t) : SpGood (heldT t r) := by
  unfold heldT
  split
  · exact h
  · exact ⟨by show (0 : Int) ≤ 0 ∧ (0 : Int) ≤ 2; omega, h.outer, h.inner⟩

/-! ### Runs and times -/
/-- The first error of steps, and the states till then, as the reference finds them. -/
theorem ord_of_sp {g : Gt} {s : St} {t : Sp} (h : stE g s = 0) : spE g s t = ordE t := by unfold spE; rw [if_neg (by simp [h])]
theorem stE_good {g : Gt} {s : St} (h : StGood g s) : stE g s = 0 := by
  unfold stE
  rw [if_neg]
  rw [inB_iff.2 h.pos, inB_iff.2 h.charge]; simp
end Go.Proofs.YtdoklolinbmhpaaGreat
