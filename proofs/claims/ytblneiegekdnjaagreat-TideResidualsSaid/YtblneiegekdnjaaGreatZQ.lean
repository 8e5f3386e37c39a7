/- Tide, part ZQ (great seat): what is owned. -/
import Derived.Test.YtblneiegekdnjaaGreatZP
set_option linter.all false
namespace Go.Proofs.YtblneiegekdnjaaGreat
open Go.RowKit
/-- What is owned stays so where another block is written. -/
theorem ownsRow_set {w : World} {base : Nat} {T : TypeId} {sz : Nat} {v : Value} {n : Nat} {xs : List Value} (h : w.ownsRow base T sz v n xs) (p : Addr) (x : Value) (ho : v.ownBlock ≠ some p.block) : (w.setCell p x).ownsRow base T sz v n xs := by
  refine h.kept (row := some p.block) ⟨rfl, rfl, rfl, by simp [World.setCell], fun k hk hne => ?_⟩ (by cases hv : v.ownBlock with | none => exact .inl rfl | some g => right; intro e; exact ho (by rw [hv]; exact e))
  exact Below.heap_setCell _ _ _ _ (fun e => hne (by rw [e]))
theorem ownsRow_lt {w : World} {base : Nat} {T : TypeId} {sz : Nat} {v : Value} {n : Nat} {xs : List Value} (h : w.ownsRow base T sz v n xs) {b : Nat} (hb : b < base ∨ w.heap.size ≤ b) : v.ownBlock ≠ some b := fun e => by
  have := h.lt b e; omega

end Go.Proofs.YtblneiegekdnjaaGreat
