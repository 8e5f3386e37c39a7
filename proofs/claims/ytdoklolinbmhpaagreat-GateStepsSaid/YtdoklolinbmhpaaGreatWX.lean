/- Gate, part WX: the examples, as numbers. -/
import Derived.Test.YtdoklolinbmhpaaGreatWM
set_option linter.all false
namespace Go.Proofs.YtdoklolinbmhpaaGreat
open Go.RowKit

def exGt : Gt := ⟨⟨#[101, 97, 115, 116]⟩, 2, 1000, [600, 400], 8000, -2000, 9000, 40, 0, 5, 20, 900, 700, 25, 40, 100, 30, 200, 10, [⟨1, 0, 10⟩, ⟨1, 0, 10⟩, ⟨2, 995, 5⟩], 1⟩
def exWest : Gt := { exGt with name := ⟨#[119, 101, 115, 116]⟩ }
def exRu : Ru := ⟨1, 0, 1000, 1000⟩
theorem ex_check : gtE exGt = 0 := by decide +kernel
theorem ex_falls : fallsP exGt 9000 8000 = (891, 0) := by decide +kernel
theorem ex_step : stepP exGt ⟨100, 100, false⟩ ⟨2, true, 3000, 1000⟩ = ((⟨75, 105, false⟩, 0, -25, 25), 0) := by decide +kernel
theorem ex_delay : delayP [exGt, exWest] [exRu] [⟨0, 0, false⟩, ⟨0, 0, false⟩] 3000 1000 false = (5, 0) := by decide +kernel
end Go.Proofs.YtdoklolinbmhpaaGreat
