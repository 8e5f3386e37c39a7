/-
  No cell of these rows narrows 'for every input' (looked for: loops, veiled, ifaces, maps, wideKeys, modest, calm, conditions, laid).
  DERIVED. THE GIVEN ROWS OF THIS SEAT. 5 by the template 'for every input the law returns true; each argument reads behind the call as it read before'; 0 by the template 'total and deterministic' (their statements: YtdoklolinbmhpaaGreatTotals.lean).
  GIVEN WITH THE SEED: the statements are not yours to turn. If you find one false, say at which input.
  Laid BY PROGRAM, IN A SANDBOX (cutbox-rows.mjs): the forced cells as the released guide's own fill.sh prints them over the translation 2032900a583346ae… (all of the seat's roots in one cut). By AI agents, Wed Nov 11 2026. No macro, syntax, notation, axiom, sorry.
-/
import Derived.Test.YtdoklolinbmhpaaGreatChecked
import GoSem.Claim
import GoSem.ClaimJoined
import GoSem.ClaimMapViews
import Derived.JoinedTies
import Derived.KernelRfl
namespace Go.Proofs.YtdoklolinbmhpaaGreat
/- THE CELL 'sum', in the pinned program and in every row, IS THE sha256 OF THE DUMP (.gsa) THAT YtdoklolinbmhpaaGreatProg.lean LOADS. Nothing in Lean hashes anything: it is a label: what it is worth is what the hold of that sum in a sandbox is worth. -/
noncomputable def Tryz.pinned : Pinned := { name := "ytdoklolinbmhpaagreat", sum := "2032900a583346ae6624787cfa07f7e19b3aeeffdad814596f728bbbe0495558", checked := Tryz.checked }
namespace Rows
def none {H : Type} : Left H := { results := [], args := [] }

/-- 'barragelaw03.GateSteps': WHATEVER THE INPUT: true; the input reads as it did. -/
def gateStepsSpec : ChangeSpec := { name := "gateSteps", fn := fun _ => fun
  | [d1, d2, d3] => { results := [.lit (.bool true)], args := [d1, d2, d3] }
  | _ => none }
def gateStepsRow : OpenClaim := { program := "ytdoklolinbmhpaagreat", sum := "2032900a583346ae6624787cfa07f7e19b3aeeffdad814596f728bbbe0495558", func := "barrage/barragelaw03.GateSteps", spec := "gateSteps", unfollowed := true, recurses := true, apart := false }
def GateStepsSaid : Prop := gateStepsRow.holds Tryz.pinned (OpenSpec.ofChange gateStepsSpec)

/-- ITS FALSE NEIGHBOUR: 'it returns false'. Refute it at one input. -/
def gateStepsWrong : ChangeSpec := { name := "gateSteps", fn := fun _ => fun
  | [d1, d2, d3] => { results := [.lit (.bool false)], args := [d1, d2, d3] }
  | _ => none }
def GateStepsWrongFalsely : Prop := gateStepsRow.holds Tryz.pinned (OpenSpec.ofChange gateStepsWrong)

/-- 'barragelaw03.GateTimes': WHATEVER THE INPUT: true; the input reads as it did. -/
def gateTimesSpec : ChangeSpec := { name := "gateTimes", fn := fun _ => fun
  | [d1, d2, d3] => { results := [.lit (.bool true)], args := [d1, d2, d3] }
  | _ => none }
def gateTimesRow : OpenClaim := { program := "ytdoklolinbmhpaagreat", sum := "2032900a583346ae6624787cfa07f7e19b3aeeffdad814596f728bbbe0495558", func := "barrage/barragelaw03.GateTimes", spec := "gateTimes", unfollowed := true, recurses := true, apart := false }
def GateTimesSaid : Prop := gateTimesRow.holds Tryz.pinned (OpenSpec.ofChange gateTimesSpec)

/-- ITS FALSE NEIGHBOUR: 'it returns false'. Refute it at one input. -/
def gateTimesWrong : ChangeSpec := { name := "gateTimes", fn := fun _ => fun
  | [d1, d2, d3] => { results := [.lit (.bool false)], args := [d1, d2, d3] }
  | _ => none }
def GateTimesWrongFalsely : Prop := gateTimesRow.holds Tryz.pinned (OpenSpec.ofChange gateTimesWrong)

/-- 'barragelaw03.GateSensors': WHATEVER THE INPUT: true; the input reads as it did. -/
def gateSensorsSpec : ChangeSpec := { name := "gateSensors", fn := fun _ => fun
  | [d1, d2, d3] => { results := [.lit (.bool true)], args := [d1, d2, d3] }
  | _ => none }
def gateSensorsRow : OpenClaim := { program := "ytdoklolinbmhpaagreat", sum := "2032900a583346ae6624787cfa07f7e19b3aeeffdad814596f728bbbe0495558", func := "barrage/barragelaw03.GateSensors", spec := "gateSensors", unfollowed := true, recurses := true, apart := false }
def GateSensorsSaid : Prop := gateSensorsRow.holds Tryz.pinned (OpenSpec.ofChange gateSensorsSpec)

/-- ITS FALSE NEIGHBOUR: 'it returns false'. Refute it at one input. -/
def gateSensorsWrong : ChangeSpec := { name := "gateSensors", fn := fun _ => fun
  | [d1, d2, d3] => { results := [.lit (.bool false)], args := [d1, d2, d3] }
  | _ => none }
def GateSensorsWrongFalsely : Prop := gateSensorsRow.holds Tryz.pinned (OpenSpec.ofChange gateSensorsWrong)

/-- 'barragelaw03.GateMoves': WHATEVER THE INPUT: true; the input reads as it did. -/
def gateMovesSpec : ChangeSpec := { name := "gateMoves", fn := fun _ => fun
  | [d1, d2] => { results := [.lit (.bool true)], args := [d1, d2] }
  | _ => none }
def gateMovesRow : OpenClaim := { program := "ytdoklolinbmhpaagreat", sum := "2032900a583346ae6624787cfa07f7e19b3aeeffdad814596f728bbbe0495558", func := "barrage/barragelaw03.GateMoves", spec := "gateMoves", unfollowed := true, recurses := true, apart := false }
def GateMovesSaid : Prop := gateMovesRow.holds Tryz.pinned (OpenSpec.ofChange gateMovesSpec)

/-- ITS FALSE NEIGHBOUR: 'it returns false'. Refute it at one input. -/
def gateMovesWrong : ChangeSpec := { name := "gateMoves", fn := fun _ => fun
  | [d1, d2] => { results := [.lit (.bool false)], args := [d1, d2] }
  | _ => none }
def GateMovesWrongFalsely : Prop := gateMovesRow.holds Tryz.pinned (OpenSpec.ofChange gateMovesWrong)

/-- 'barragelaw03.GateDelays': WHATEVER THE INPUT: true; the input reads as it did. -/
def gateDelaysSpec : ChangeSpec := { name := "gateDelays", fn := fun _ => fun
  | [d1, d2, d3] => { results := [.lit (.bool true)], args := [d1, d2, d3] }
  | _ => none }
def gateDelaysRow : OpenClaim := { program := "ytdoklolinbmhpaagreat", sum := "2032900a583346ae6624787cfa07f7e19b3aeeffdad814596f728bbbe0495558", func := "barrage/barragelaw03.GateDelays", spec := "gateDelays", unfollowed := true, recurses := true, apart := false }
def GateDelaysSaid : Prop := gateDelaysRow.holds Tryz.pinned (OpenSpec.ofChange gateDelaysSpec)

/-- ITS FALSE NEIGHBOUR: 'it returns false'. Refute it at one input. -/
def gateDelaysWrong : ChangeSpec := { name := "gateDelays", fn := fun _ => fun
  | [d1, d2, d3] => { results := [.lit (.bool false)], args := [d1, d2, d3] }
  | _ => none }
def GateDelaysWrongFalsely : Prop := gateDelaysRow.holds Tryz.pinned (OpenSpec.ofChange gateDelaysWrong)

/- THE SECOND FORM. 'bulk': how many values and letters a reading holds, each counted each time it is reached (what is shared counts as often as it is met; a slice's spare places count too). A statement '..UptoSaid' is the law's where the arguments, and the package variables that the reading takes, are together of bulk at most 1048576: NARROWER than '..Said'. Prove '..Said' where nothing that the law and all that it calls make is longer than what came in: it says more and counts as full. Else prove '..UptoSaid'. A law counts once. -/
mutual
def uptoBulk {H : Type} : DataW H → Nat
  | .lit (.string bytes) => bytes.length + 1
  | .lit _ => 1
  | .nil => 1
  | .ptr d => uptoBulk d + 1
  | .slice elems spare => uptoBulkAll elems + uptoBulkAll spare + 1
  | .agg parts => uptoBulkAll parts + 1
  | .iface _ d => uptoBulk d + 1
  | .map entries => uptoBulkEntries entries + 1
  | .held _ => 1
def uptoBulkAll {H : Type} : List (DataW H) → Nat
  | [] => 0
  | d :: r => uptoBulk d + uptoBulkAll r
def uptoBulkEntries {H : Type} : List (Lit × DataW H) → Nat
  | [] => 0
  | x :: r => uptoBulkEntry x + uptoBulkEntries r
def uptoBulkEntry {H : Type} : Lit × DataW H → Nat
  | (.string bytes, d) => bytes.length + uptoBulk d + 1
  | (_, d) => uptoBulk d + 1
 end
def uptoSmall : (H : Type) → List (DataW H) → Bool := fun _ ds => decide (uptoBulkAll ds ≤ 1048576)
def OpenSpec.upto (s : _root_.Go.ChangeSpec) : _root_.Go.OpenSpec := { _root_.Go.OpenSpec.ofChange s with cond := some uptoSmall }

/-- 'barragelaw03.GateSteps', WHERE WHAT IT READS IS OF BULK AT MOST 1048576: true; the input reads as it did. -/
def gateStepsUptoRow : OpenClaim := { program := "ytdoklolinbmhpaagreat", sum := "2032900a583346ae6624787cfa07f7e19b3aeeffdad814596f728bbbe0495558", func := "barrage/barragelaw03.GateSteps", spec := "gateSteps", unfollowed := true, recurses := true, apart := false, narrowed := true }
def GateStepsUptoSaid : Prop := gateStepsUptoRow.holds Tryz.pinned (OpenSpec.upto gateStepsSpec)

/-- 'barragelaw03.GateTimes', WHERE WHAT IT READS IS OF BULK AT MOST 1048576: true; the input reads as it did. -/
def gateTimesUptoRow : OpenClaim := { program := "ytdoklolinbmhpaagreat", sum := "2032900a583346ae6624787cfa07f7e19b3aeeffdad814596f728bbbe0495558", func := "barrage/barragelaw03.GateTimes", spec := "gateTimes", unfollowed := true, recurses := true, apart := false, narrowed := true }
def GateTimesUptoSaid : Prop := gateTimesUptoRow.holds Tryz.pinned (OpenSpec.upto gateTimesSpec)

/-- 'barragelaw03.GateSensors', WHERE WHAT IT READS IS OF BULK AT MOST 1048576: true; the input reads as it did. -/
def gateSensorsUptoRow : OpenClaim := { program := "ytdoklolinbmhpaagreat", sum := "2032900a583346ae6624787cfa07f7e19b3aeeffdad814596f728bbbe0495558", func := "barrage/barragelaw03.GateSensors", spec := "gateSensors", unfollowed := true, recurses := true, apart := false, narrowed := true }
def GateSensorsUptoSaid : Prop := gateSensorsUptoRow.holds Tryz.pinned (OpenSpec.upto gateSensorsSpec)

/-- 'barragelaw03.GateMoves', WHERE WHAT IT READS IS OF BULK AT MOST 1048576: true; the input reads as it did. -/
def gateMovesUptoRow : OpenClaim := { program := "ytdoklolinbmhpaagreat", sum := "2032900a583346ae6624787cfa07f7e19b3aeeffdad814596f728bbbe0495558", func := "barrage/barragelaw03.GateMoves", spec := "gateMoves", unfollowed := true, recurses := true, apart := false, narrowed := true }
def GateMovesUptoSaid : Prop := gateMovesUptoRow.holds Tryz.pinned (OpenSpec.upto gateMovesSpec)

/-- 'barragelaw03.GateDelays', WHERE WHAT IT READS IS OF BULK AT MOST 1048576: true; the input reads as it did. -/
def gateDelaysUptoRow : OpenClaim := { program := "ytdoklolinbmhpaagreat", sum := "2032900a583346ae6624787cfa07f7e19b3aeeffdad814596f728bbbe0495558", func := "barrage/barragelaw03.GateDelays", spec := "gateDelays", unfollowed := true, recurses := true, apart := false, narrowed := true }
def GateDelaysUptoSaid : Prop := gateDelaysUptoRow.holds Tryz.pinned (OpenSpec.upto gateDelaysSpec)

end Rows
end Go.Proofs.YtdoklolinbmhpaaGreat
