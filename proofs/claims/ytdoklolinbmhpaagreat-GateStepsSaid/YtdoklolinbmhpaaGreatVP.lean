/- Gate, part VP: why an order is refused; what the gate does by an order. -/
import Derived.Test.YtdoklolinbmhpaaGreatVO
set_option linter.all false
namespace Go.Proofs.YtdoklolinbmhpaaGreat
open Go.RowKit

set_option maxRecDepth 100000 in
set_option maxHeartbeats 2000000 in
theorem refusal_any (g : Gt) (p : GtP) (s : St) (t : Sp) (lock : Int) (w : World) :
    Calls Tryz.prog 61 #[.agg (mL g p s t).toArray, .int .i64 lock] w fun e w' => e = .returned (.int .i64 (refF s t lock)) ∧ Below w.heap.size w w' := by
  have HE := hid (show refF s t lock = if t.order = 0 then 0 else if s.bolted = true then 130 else lock from rfl)
  go_enter Tryz.func61, Tryz.ntmps61
  have R := range_alloc w (mL g p s t) 74
  have bA : Below w.heap.size w (w.alloc (.cells (mL g p s t).toArray 74)) := (Below.refl _ _).alloc (Nat.le_refl _) _
  have S0 : w.heap.size < (w.alloc (.cells (mL g p s t).toArray 74)).heap.size := by simp
  have c23 := range_cell R (show (mL g p s t)[23]? = some (.bool s.bolted) from rfl)
  have c24 := range_cell R (show (mL g p s t)[24]? = some (.int .i64 t.order) from rfl)
  by_cases h0 : t.order = 0
  · have HR := hid (HE.out.trans (if_pos h0))
    go_wp2_with fail
    go_ret
    exact ⟨ret_iE HR.out.symm, bA⟩
  · rcases hb : s.bolted with _ | _
    · have HR := hid (HE.out.trans ((if_neg h0).trans (if_neg (by rw [hb]; simp))))
      rw [hb] at c23
      go_wp2_with fail
      go_ret
      exact ⟨ret_iE HR.out.symm, bA⟩
    · have HR := hid (HE.out.trans ((if_neg h0).trans (if_pos hb)))
      rw [hb] at c23
      go_wp2_with fail
      go_ret
      exact ⟨ret_iE HR.out.symm, bA⟩

theorem ret_fn {a b : Nat} (h : a = b) : Ending.returned (.func (.func a) #[] #[]) = .returned (.func (.func b) #[] #[]) := by rw [h]
def actN (s : St) (t : Sp) : Nat := if s.bolted = true then 99 else if t.order = 1 then 100 else if t.order = 2 then 101 else 102

set_option maxRecDepth 100000 in
set_option maxHeartbeats 2000000 in
theorem action_any (g : Gt) (p : GtP) (s : St) (t : Sp) (w : World) :
    Calls Tryz.prog 62 #[.agg (mL g p s t).toArray] w fun e w' => e = .returned (.func (.func (actN s t)) #[] #[]) ∧ Below w.heap.size w w' := by
  have HE := hid (show actN s t = if s.bolted = true then 99 else if t.order = 1 then 100 else if t.order = 2 then 101 else 102 from rfl)
  go_enter Tryz.func62, Tryz.ntmps62
  have R := range_alloc w (mL g p s t) 74
  have bA : Below w.heap.size w (w.alloc (.cells (mL g p s t).toArray 74)) := (Below.refl _ _).alloc (Nat.le_refl _) _
  have S0 : w.heap.size < (w.alloc (.cells (mL g p s t).toArray 74)).heap.size := by simp
  have c23 := range_cell R (show (mL g p s t)[23]? = some (.bool s.bolted) from rfl)
  have c24 := range_cell R (show (mL g p s t)[24]? = some (.int .i64 t.order) from rfl)
  rcases hb : s.bolted with _ | _
  · rw [hb] at c23
    have HS := hid (HE.out.trans (if_neg (by rw [hb]; simp)))
    by_cases h1 : t.order = 1
    · have HR := hid (HS.out.trans (if_pos h1))
      go_wp2_with fail
      go_ret
      exact ⟨ret_fn HR.out.symm, bA⟩
    · by_cases h2 : t.order = 2
      · have HR := hid (HS.out.trans ((if_neg h1).trans (if_pos h2)))
        go_wp2_with fail
        go_ret
        exact ⟨ret_fn HR.out.symm, bA⟩
      · have HR := hid (HS.out.trans ((if_neg h1).trans (if_neg h2)))
        go_wp2_with fail
        go_ret
        exact ⟨ret_fn HR.out.symm, bA⟩
  · rw [hb] at c23
    have HR := hid (HE.out.trans (if_pos hb))
    go_wp2_with fail
    go_ret
    exact ⟨ret_fn HR.out.symm, bA⟩
end Go.Proofs.YtdoklolinbmhpaaGreat
