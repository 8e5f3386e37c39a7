/- Gate, part VS: what a gate does whose bolts hold it. -/
import Derived.Test.YtdoklolinbmhpaaGreatVR
set_option linter.all false
namespace Go.Proofs.YtdoklolinbmhpaaGreat
open Go.RowKit

set_option maxRecDepth 100000 in
set_option maxHeartbeats 2000000 in
theorem stays_any (g : Gt) (p : GtP) (s : St) (t : Sp) (w : World) :
    Calls Tryz.prog 99 #[.agg (mL g p s t).toArray] w fun e w' => e = .returned (.agg #[.int .i64 0, .int .i64 0]) ∧ Below w.heap.size w w' := by
  go_enter Tryz.func99, Tryz.ntmps99
  go_wp2_with fail
  refine bodyPost_ret (v := .agg #[.int .i64 0, .int .i64 0]) (by simp [results, Tryz.results99, go_sem, *]) rfl ⟨rfl, ?_⟩
  exact ((Below.refl _ _).alloc (Nat.le_refl _) _).alloc (by simp) _
end Go.Proofs.YtdoklolinbmhpaaGreat
