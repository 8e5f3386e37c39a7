/- Gate, part LA: what the laws' walks share. -/
import Derived.Test.YtdoklolinbmhpaaGreatVY
import Derived.Test.YtdoklolinbmhpaaGreatWN
import Derived.Lib.MinMax
set_option linter.all false
namespace Go.Proofs.YtdoklolinbmhpaaGreat
open Go.RowKit

theorem stepP_two (g : Gt) (s : St) (t : Sp) : (∃ x, x ≠ 0 ∧ stepP g s t = ((⟨0, 0, false⟩, 0, 0, 0), x)) ∨ (gtE g = 0 ∧ spE g s t = 0 ∧ stepP g s t = (stepF g s t 0, 0)) := by
  unfold stepP
  by_cases h : gtE g = 0
  · rw [if_neg (by simp [h])]
    by_cases h2 : spE g s t = 0
    · right; exact ⟨h, h2, by rw [if_neg (by simp [h2])]⟩
    · left; exact ⟨_, h2, by rw [if_pos h2]⟩
  · left; exact ⟨_, h, by rw [if_pos h]⟩
theorem lv_good {t : Sp} (h : SpGood t) : lvB t.outer t.inner = true := by
  unfold lvB; simp only [Bool.and_eq_true, inB_iff]; exact ⟨h.outer, h.inner⟩
theorem forceP_ok {g : Gt} {s : St} {t : Sp} (h : gtE g = 0) (hs : StGood g s) (ht : SpGood t) : forceP g s.pos t.outer t.inner = (closeF g s.pos t.outer t.inner, frictF g s.pos t.outer t.inner, 0) := by
  unfold forceP
  rw [if_neg (by simp [h]), if_neg]
  rw [lv_good ht, show inB s.pos 0 g.travel = true from inB_iff.2 hs.pos]
  simp
/-- Below, behind a call. -/
theorem bthen {w x y : World} (h : Below w.heap.size w x) (k : Below x.heap.size x y) : Below w.heap.size w y := h.trans (k.mono h.size)
theorem lthen {b : Nat} {x y : World} (h : b < x.heap.size) (k : Below x.heap.size x y) : b < y.heap.size := Nat.lt_of_lt_of_le h k.size
/-- The three arguments of a law on a gate, its state and a step, in memory. -/
structure LwW (w : World) (g : Gt) (p : GtP) (s : St) (t : Sp) (x : World) : Prop where
  below : Below w.heap.size w x
  lt : w.heap.size + 1 + 1 < x.heap.size
  rows : x.rangeAt w.heap.size 0 (gtL g p)
  ss : x.rangeAt (w.heap.size + 1) 0 (stL s)
  ts : x.rangeAt (w.heap.size + 1 + 1) 0 (spL t)
theorem LwW.later {w x y : World} {g : Gt} {p : GtP} {s : St} {t : Sp} (h : LwW w g p s t x) (hb : Below x.heap.size x y) : LwW w g p s t y := by
  have hl := h.lt
  exact ⟨bthen h.below hb, Nat.lt_of_lt_of_le hl hb.size, range_later h.rows hb (by omega), range_later h.ss hb (by omega), range_later h.ts hb (by omega)⟩
theorem LwW.start (w : World) (g : Gt) (p : GtP) (s : St) (t : Sp) : LwW w g p s t (((w.alloc (.cells (gtL g p).toArray 25)).alloc (.cells #[.int .i64 s.pos, .int .i64 s.charge, .bool s.bolted] 27)).alloc (.cells #[.int .i64 t.order, .bool t.power, .int .i64 t.outer, .int .i64 t.inner] 35)) := by
  have hA : Below w.heap.size w (w.alloc (.cells (gtL g p).toArray 25)) := (Below.refl _ _).alloc (Nat.le_refl _) _
  have R0 := range_alloc w (gtL g p) 25
  generalize hA1 : w.alloc (.cells (gtL g p).toArray 25) = A at *
  have sA : A.heap.size = w.heap.size + 1 := by rw [← hA1]; simp
  have R1 := range_alloc A (stL s) 27
  have hB : Below A.heap.size A (A.alloc (.cells (stL s).toArray 27)) := (Below.refl _ _).alloc (Nat.le_refl _) _
  have R0' := range_later R0 hB (by omega)
  show LwW w g p s t ((A.alloc (.cells (stL s).toArray 27)).alloc (.cells (spL t).toArray 35))
  have sB : (A.alloc (.cells (stL s).toArray 27)).heap.size = w.heap.size + 1 + 1 := by simp [sA]
  generalize A.alloc (.cells (stL s).toArray 27) = B at *
  have R2 := range_alloc B (spL t) 35
  have hC : Below B.heap.size B (B.alloc (.cells (spL t).toArray 35)) := (Below.refl _ _).alloc (Nat.le_refl _) _
  rw [sA] at R1
  rw [sB] at R2
  exact ⟨bthen (bthen hA hB) hC, by simp [sB], range_later R0' hC (by omega), range_later R1 hC (by omega), R2⟩
/-- What lies in a fresh box, and in two of them, behind a call. -/
theorem one_box {w x : World} {cs : List Value} {T : TypeId} (hb : Below (w.alloc (.cells cs.toArray T)).heap.size (w.alloc (.cells cs.toArray T)) x) : x.rangeAt w.heap.size 0 cs ∧ w.heap.size < x.heap.size ∧ Below w.heap.size w x := by
  have hA : Below w.heap.size w (w.alloc (.cells cs.toArray T)) := (Below.refl _ _).alloc (Nat.le_refl _) _
  have R := range_alloc w cs T
  have hs : w.heap.size < (w.alloc (.cells cs.toArray T)).heap.size := by simp
  exact ⟨range_later R hb hs, lthen hs hb, bthen hA hb⟩
theorem two_boxes {w x : World} {cs ds : List Value} {T S : TypeId} (hb : Below ((w.alloc (.cells cs.toArray T)).alloc (.cells ds.toArray S)).heap.size ((w.alloc (.cells cs.toArray T)).alloc (.cells ds.toArray S)) x) :
    x.rangeAt w.heap.size 0 cs ∧ x.rangeAt (w.heap.size + 1) 0 ds ∧ w.heap.size + 1 < x.heap.size ∧ Below w.heap.size w x := by
  have hA : Below w.heap.size w (w.alloc (.cells cs.toArray T)) := (Below.refl _ _).alloc (Nat.le_refl _) _
  have R := range_alloc w cs T
  have hs : (w.alloc (.cells cs.toArray T)).heap.size = w.heap.size + 1 := by simp
  generalize w.alloc (.cells cs.toArray T) = A at *
  obtain ⟨h1, h2, h3⟩ := one_box hb
  rw [hs] at h1 h2
  exact ⟨range_later R h3 (by omega), h1, h2, bthen hA h3⟩
theorem Calls.quiet_of_same' {P : Program} {f : FuncId} {args : Array Value} {w : World} {n : Nat} {v : Value}
    (h : Calls P f args (w.drewN n) fun e w' => e = .returned v ∧ w.drewN n = w') : Calls P f args (w.drewN n) fun e w'' => e = .returned v ∧ ∃ m, w'' = w.drewN m :=
  h.mono fun _ _ ⟨he, hm⟩ => ⟨he, n, hm.symm⟩
theorem ret_tt : Ending.returned (.bool true) = Ending.returned (.bool true) := rfl

end Go.Proofs.YtdoklolinbmhpaaGreat
