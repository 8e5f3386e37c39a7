/- Gate, part WR: Where with too few readings; the pair of the examples. -/
import Derived.Test.YtpgggffcpcjahaaWQ
import Derived.Test.YtpgggffcpcjahaaWP
set_option linter.all false
namespace Go.Proofs.Ytpgggffcpcjahaa
open Go.RowKit

set_option maxRecDepth 100000 in
set_option maxHeartbeats 2000000 in
theorem whereShort_any (g : Gt) (p : GtP) (ra : Option Addr) (m mc : Nat) (w : World) (hok : GtOk w p g) (h0 : gtE g = 0) (hm : m ≠ g.ss.length) :
    Calls Try.prog 27 #[.agg (gtL g p).toArray, .slice ra m mc] w fun e w' => e = .returned (.tuple #[.agg #[.int .i64 0, .int .i64 0], .int .i64 2]) ∧ Below w.heap.size w w' := by
  have HOk := hid hok
  have q2 : ((m : Int) != (g.ss.length : Int)) = true := by simp; omega
  have hB0 : Below (w.alloc (.cells (gtL g p).toArray 33)).heap.size (w.alloc (.cells (gtL g p).toArray 33)) ((w.alloc (.cells (gtL g p).toArray 33)).alloc (.cells #[.int .i64 0, .int .i64 0] 53)) := (Below.refl _ _).alloc (Nat.le_refl _) _
  have R1 := range_later (range_alloc w (gtL g p) 33) hB0 (by simp)
  have HGe := hid (gateError_any g p ((w.alloc (.cells (gtL g p).toArray 33)).alloc (.cells #[.int .i64 0, .int .i64 0] 53)) (hok.later (((Below.refl w.heap.size w).alloc (Nat.le_refl _) _).alloc (by simp) _) (Nat.le_refl _)))
  have HB := hid (show Below w.heap.size w ((w.alloc (.cells (gtL g p).toArray 33)).alloc (.cells #[.int .i64 0, .int .i64 0] 53)) from ((Below.refl w.heap.size w).alloc (Nat.le_refl _) _).alloc (by simp) _)
  rw [h0] at HGe
  clear hok h0 hm hB0
  go_enter Try.func27, Try.ntmps27
  go_wp2_with (refine wpList_load_mid rfl 33 _ rfl _ 0 rfl (gtL g p) _ R1 Try.underlying33 rfl (by kernel_rfl) ?_)
  refine (HGe.out).mono ?_
  rintro e w1 ⟨rfl, hb⟩
  have c19 := range_cell (range_later R1 hb (by simp <;> omega)) (show (gtL g p)[19]? = some (.slice p.sa g.ss.length p.sc) from rfl)
  have y0 : w1.cell? ⟨w.heap.size + 1, 0, none⟩ = some (.int .i64 0) := (hb.cell (p := ⟨w.heap.size + 1, 0, none⟩) (by simp)).trans (by simp [go_sem])
  have y1 : w1.cell? ⟨w.heap.size + 1, 1, none⟩ = some (.int .i64 0) := (hb.cell (p := ⟨w.heap.size + 1, 1, none⟩) (by simp)).trans (by simp [go_sem])
  have f0 : ∀ o, w1.frozen? ⟨w.heap.size + 1, o, none⟩ = false := fun o => (hb.frozen (p := ⟨w.heap.size + 1, o, none⟩) (by simp)).trans (by simp [go_sem])
  have hfin := HB.out.trans (hb.mono HB.out.size)
  clear R1 HGe hb HB
  go_wp2_with fail
  refine bodyPost_ret (v := .tuple #[.agg #[.int .i64 0, .int .i64 0], .int .i64 2]) (by simp [results, Try.results27, go_sem, y0, y1]) rfl ⟨rfl, ?_⟩
  exact (hfin.setCell (by simp) _).setCell (by simp) _
end Go.Proofs.Ytpgggffcpcjahaa
