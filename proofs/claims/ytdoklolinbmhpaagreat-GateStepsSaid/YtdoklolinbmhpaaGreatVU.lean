/- Gate, part VU: what the function does that action returns. -/
import Derived.Test.YtdoklolinbmhpaaGreatVT
set_option linter.all false
namespace Go.Proofs.YtdoklolinbmhpaaGreat
open Go.RowKit

theorem act_any (g : Gt) (p : GtP) (s : St) (t : Sp) (w : World) (hg : GtGood g) (hs : StGood g s) (ht : SpGood t) (hat : IntsAt w p.oa g.own) :
    Calls Tryz.prog (actN s t) #[.agg (mL g p s t).toArray] w fun e w' => e = .returned (.agg #[.int .i64 (actF g s t).1, .int .i64 (actF g s t).2]) ∧ Below w.heap.size w w' := by
  unfold actN actF
  split
  · exact stays_any g p s t w
  · split
    · exact closes_any g p s t w hg hs ht hat
    · split
      · exact opens_any g p s t w hg hs ht hat
      · exact holds_any g p s t w hg hs ht hat
end Go.Proofs.YtdoklolinbmhpaaGreat
