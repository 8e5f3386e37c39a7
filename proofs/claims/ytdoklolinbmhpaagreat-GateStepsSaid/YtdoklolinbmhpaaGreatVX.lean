/- Gate, part VX: what stands in memory while step is walked: the machine, and the boxes of its two results. -/
import Derived.Test.YtdoklolinbmhpaaGreatVW
set_option linter.all false
namespace Go.Proofs.YtdoklolinbmhpaaGreat
open Go.RowKit

/-- The machine's block and the two boxes behind it, in a world that differs from w only above. -/
structure StB (w : World) (L : List Value) (x : World) : Prop where
  below : Below w.heap.size w x
  lt : w.heap.size + 1 + 1 < x.heap.size
  rows : x.rangeAt w.heap.size 0 L
  fm : ∀ o, x.frozen? ⟨w.heap.size, o, none⟩ = false
  s0 : x.cell? ⟨w.heap.size + 1, 0, none⟩ = some (.int .i64 0)
  s1 : x.cell? ⟨w.heap.size + 1, 1, none⟩ = some (.int .i64 0)
  s2 : x.cell? ⟨w.heap.size + 1, 2, none⟩ = some (.bool false)
  m0 : x.cell? ⟨w.heap.size + 1 + 1, 0, none⟩ = some (.int .i64 0)
  m1 : x.cell? ⟨w.heap.size + 1 + 1, 1, none⟩ = some (.int .i64 0)
  m2 : x.cell? ⟨w.heap.size + 1 + 1, 2, none⟩ = some (.int .i64 0)
  fs : ∀ o, x.frozen? ⟨w.heap.size + 1, o, none⟩ = false
  fv : ∀ o, x.frozen? ⟨w.heap.size + 1 + 1, o, none⟩ = false
theorem StB.later {w x y : World} {L : List Value} (h : StB w L x) (hb : Below x.heap.size x y) : StB w L y := by
  have hl := h.lt
  have c : ∀ b o, b < x.heap.size → y.cell? ⟨b, o, none⟩ = x.cell? ⟨b, o, none⟩ := fun b o hlt => hb.cell (p := ⟨b, o, none⟩) hlt
  have f : ∀ b o, b < x.heap.size → y.frozen? ⟨b, o, none⟩ = x.frozen? ⟨b, o, none⟩ := fun b o hlt => hb.frozen (p := ⟨b, o, none⟩) hlt
  exact ⟨h.below.trans (hb.mono h.below.size), Nat.lt_of_lt_of_le hl hb.size, range_later h.rows hb (by omega), fun o => (f _ _ (by omega)).trans (h.fm o), (c _ _ (by omega)).trans h.s0, (c _ _ (by omega)).trans h.s1, (c _ _ (by omega)).trans h.s2, (c _ _ hl).trans h.m0, (c _ _ hl).trans h.m1, (c _ _ hl).trans h.m2, fun o => (f _ _ (by omega)).trans (h.fs o), fun o => (f _ _ hl).trans (h.fv o)⟩
theorem StB.drew {w x : World} {L : List Value} (h : StB w L x) : StB w L x.drew :=
  ⟨h.below.drew, by simpa using h.lt, range_drew h.rows, fun o => by simpa using h.fm o, by simpa using h.s0, by simpa using h.s1, by simpa using h.s2, by simpa using h.m0, by simpa using h.m1, by simpa using h.m2, fun o => by simpa using h.fs o, fun o => by simpa using h.fv o⟩
/-- The order is set to hold. -/
theorem StB.hold {g : Gt} {p : GtP} {s : St} {t : Sp} {w x : World} (h : StB w (mL g p s t) x) : StB w (mL g p s { t with order := 0 }) (x.setCell ⟨w.heap.size, 24, none⟩ (.int .i64 0)) := by
  have o : ∀ b j, b ≠ w.heap.size → (x.setCell ⟨w.heap.size, 24, none⟩ (.int .i64 0)).cell? ⟨b, j, none⟩ = x.cell? ⟨b, j, none⟩ := fun b j hb => World.cell?_setCell_other _ _ _ _ (by intro e; injection e with e1 e2; exact hb e1.symm)
  exact ⟨h.below.setCell (Nat.le_refl _) _, by simpa using h.lt, range_hold h.rows, fun o => by simpa using h.fm o, (o _ _ (by omega)).trans h.s0, (o _ _ (by omega)).trans h.s1, (o _ _ (by omega)).trans h.s2, (o _ _ (by omega)).trans h.m0, (o _ _ (by omega)).trans h.m1, (o _ _ (by omega)).trans h.m2, fun o => by simpa using h.fs o, fun o => by simpa using h.fv o⟩
/-- Two numbers are stored in a box above. -/
theorem StB.sets {w x : World} {L : List Value} {X : Nat} {a b : Value} (h : StB w L x) (hX : w.heap.size + 1 + 1 < X) : StB w L ((x.setCell ⟨X, 0, none⟩ a).setCell ⟨X, 1, none⟩ b) := by
  have o : ∀ c j, c < X → ((x.setCell ⟨X, 0, none⟩ a).setCell ⟨X, 1, none⟩ b).cell? ⟨c, j, none⟩ = x.cell? ⟨c, j, none⟩ := fun c j hc => (World.cell?_setCell_other _ _ _ _ (by intro e; injection e with e1 e2; omega)).trans (World.cell?_setCell_other _ _ _ _ (by intro e; injection e with e1 e2; omega))
  exact ⟨(h.below.setCell (by show w.heap.size ≤ X; omega) _).setCell (by show w.heap.size ≤ X; omega) _, by simpa using h.lt, fun j v hv => (o _ _ (by omega)).trans (h.rows j v hv), fun o => by simpa using h.fm o, (o _ _ (by omega)).trans h.s0, (o _ _ (by omega)).trans h.s1, (o _ _ (by omega)).trans h.s2, (o _ _ hX).trans h.m0, (o _ _ hX).trans h.m1, (o _ _ hX).trans h.m2, fun o => by simpa using h.fs o, fun o => by simpa using h.fv o⟩
theorem StB.start (w : World) (L : List Value) (T T1 T2 : TypeId) : StB w L (((w.alloc (.cells L.toArray T)).alloc (.cells #[.int .i64 0, .int .i64 0, .bool false] T1)).alloc (.cells #[.int .i64 0, .int .i64 0, .int .i64 0] T2)) := by
  have hA : Below w.heap.size w (w.alloc (.cells L.toArray T)) := (Below.refl _ _).alloc (Nat.le_refl _) _
  have hB : Below (w.alloc (.cells L.toArray T)).heap.size (w.alloc (.cells L.toArray T)) (((w.alloc (.cells L.toArray T)).alloc (.cells #[.int .i64 0, .int .i64 0, .bool false] T1)).alloc (.cells #[.int .i64 0, .int .i64 0, .int .i64 0] T2)) := ((Below.refl _ _).alloc (Nat.le_refl _) _).alloc (by simp) _
  exact ⟨hA.trans (hB.mono hA.size), by simp, range_later (range_alloc w L T) hB (by simp), fun o => by simp [go_sem], by simp [go_sem], by simp [go_sem], by simp [go_sem], by simp [go_sem], by simp [go_sem], by simp [go_sem], fun o => by simp [go_sem], fun o => by simp [go_sem]⟩
end Go.Proofs.YtdoklolinbmhpaaGreat
