/- Tide, part Qd: what more readings make known. -/
import Derived.Test.YtfjankkkeehioaaTQa
import Derived.Test.YtfjankkkeehioaaTQb
import Derived.Test.YtfjankkkeehioaaTQc
set_option linter.all false
namespace Go.Proofs.Ytfjankkkeehioaa
open Go.RowKit

theorem knows_any (g : Gau) (p : GPos) (x0 x1 x2 : Int) (w : World) (hok : GauOk w p g) :
    Calls Try.prog 13 #[.agg #[.string g.name, .int .i64 g.err, .int .i64 g.rate, .slice p.da g.ds.length p.dc, .slice p.ra g.rs.length p.rc], .agg #[.int .i64 x0, .int .i64 x1, .int .i64 x2]] w
      fun e w' => e = .returned (.bool true) ∧ Below w.heap.size w w' := by
  rcases Int.lt_trichotomy x1 x2 with hx | hx | hx
  · exact knows_lt g p x0 x1 x2 w hok hx
  · exact knows_eq g p x0 x1 x2 w hok hx
  · exact knows_gt g p x0 x1 x2 w hok hx
end Go.Proofs.Ytfjankkkeehioaa
