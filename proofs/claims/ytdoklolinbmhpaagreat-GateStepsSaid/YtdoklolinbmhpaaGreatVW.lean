/- Gate, part VW: small laws for step: the order in the machine is set to hold; the state in the midst of the machine. -/
import Derived.Test.YtdoklolinbmhpaaGreatVU
set_option linter.all false
namespace Go.Proofs.YtdoklolinbmhpaaGreat
open Go.RowKit

theorem mL_hold (g : Gt) (p : GtP) (s : St) (t : Sp) : mL g p s { t with order := 0 } = (mL g p s t).set 24 (.int .i64 0) := rfl
theorem range_hold {g : Gt} {p : GtP} {s : St} {t : Sp} {w : World} {b : Nat} (h : w.rangeAt b 0 (mL g p s t)) : (w.setCell ⟨b, 24, none⟩ (.int .i64 0)).rangeAt b 0 (mL g p s { t with order := 0 }) := by
  intro j v hv
  rw [mL_hold] at hv
  by_cases hj : j = 24
  · subst hj
    have h24 := h 24 _ (show (mL g p s t)[24]? = some (.int .i64 t.order) from rfl)
    rw [List.getElem?_set_self (by show 24 < (mL g p s t).length; exact (by decide : 24 < 28))] at hv
    cases hv
    exact World.cell?_setCell_same' _ _ _ (by rw [show (0 + 24 : Nat) = 24 from rfl] at h24; rw [h24]; rfl)
  · rw [List.getElem?_set_ne (Ne.symm hj)] at hv
    exact (World.cell?_setCell_other _ _ _ _ (by intro e; injection e with e1 e2; omega)).trans (h j v hv)
theorem range_state {g : Gt} {p : GtP} {s : St} {t : Sp} {w : World} {b : Nat} (h : w.rangeAt b 0 (mL g p s t)) : w.rangeAt b 21 (stL s) := by
  intro j v hv
  have hj : j < 3 := by
    have := (List.getElem?_eq_some_iff.1 hv).1
    exact this
  have : (mL g p s t)[21 + j]? = some v := by
    rcases (by omega : j = 0 ∨ j = 1 ∨ j = 2) with rfl | rfl | rfl <;> exact hv
  simpa using h (21 + j) v this
end Go.Proofs.YtdoklolinbmhpaaGreat
