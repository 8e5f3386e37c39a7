/-
  No cell of these rows narrows 'for every input' (looked for: loops, veiled, ifaces, maps, wideKeys, modest, calm, conditions, laid).
  DERIVED. THE GIVEN ROWS OF THIS SEAT. 12 by the template 'for every input the law returns true; each argument reads behind the call as it read before'; 0 by the template 'total and deterministic' (their statements: YtdoklolinbmhpaaTotals.lean).
  GIVEN WITH THE SEED: the statements are not yours to turn. If you find one false, say at which input.
  Laid BY PROGRAM, IN A SANDBOX (cutbox-rows.mjs): the forced cells as the released guide's own fill.sh prints them over the translation 95c379122bc7efc7… (all of the seat's roots in one cut). By AI agents, Wed Nov 11 2026. No macro, syntax, notation, axiom, sorry.
-/
import Derived.Test.YtdoklolinbmhpaaChecked
import GoSem.Claim
import GoSem.ClaimJoined
import GoSem.ClaimMapViews
import Derived.JoinedTies
import Derived.KernelRfl
namespace Go.Proofs.Ytdoklolinbmhpaa
/- THE CELL 'sum', in the pinned program and in every row, IS THE sha256 OF THE DUMP (.gsa) THAT YtdoklolinbmhpaaProg.lean LOADS. Nothing in Lean hashes anything: it is a label: what it is worth is what the hold of that sum in a sandbox is worth. -/
noncomputable def Try.pinned : Pinned := { name := "ytdoklolinbmhpaa", sum := "95c379122bc7efc79ba84f2daced822f8a1ed49ccef62dff2e44545a430bbb4c", checked := Try.checked }
namespace Rows
def none {H : Type} : Left H := { results := [], args := [] }

/-- 'barragelaw03.GateChecks': WHATEVER THE INPUT: true; the input reads as it did. -/
def gateChecksSpec : ChangeSpec := { name := "gateChecks", fn := fun _ => fun
  | [d] => { results := [.lit (.bool true)], args := [d] }
  | _ => none }
def gateChecksRow : OpenClaim := { program := "ytdoklolinbmhpaa", sum := "95c379122bc7efc79ba84f2daced822f8a1ed49ccef62dff2e44545a430bbb4c", func := "barrage/barragelaw03.GateChecks", spec := "gateChecks", unfollowed := true, recurses := true, apart := false }
def GateChecksSaid : Prop := gateChecksRow.holds Try.pinned (OpenSpec.ofChange gateChecksSpec)

/-- ITS FALSE NEIGHBOUR: 'it returns false'. Refute it at one input. -/
def gateChecksWrong : ChangeSpec := { name := "gateChecks", fn := fun _ => fun
  | [d] => { results := [.lit (.bool false)], args := [d] }
  | _ => none }
def GateChecksWrongFalsely : Prop := gateChecksRow.holds Try.pinned (OpenSpec.ofChange gateChecksWrong)

/-- 'barragelaw03.GateForces': WHATEVER THE INPUT: true; the input reads as it did. -/
def gateForcesSpec : ChangeSpec := { name := "gateForces", fn := fun _ => fun
  | [d1, d2] => { results := [.lit (.bool true)], args := [d1, d2] }
  | _ => none }
def gateForcesRow : OpenClaim := { program := "ytdoklolinbmhpaa", sum := "95c379122bc7efc79ba84f2daced822f8a1ed49ccef62dff2e44545a430bbb4c", func := "barrage/barragelaw03.GateForces", spec := "gateForces", unfollowed := true, recurses := true, apart := false }
def GateForcesSaid : Prop := gateForcesRow.holds Try.pinned (OpenSpec.ofChange gateForcesSpec)

/-- ITS FALSE NEIGHBOUR: 'it returns false'. Refute it at one input. -/
def gateForcesWrong : ChangeSpec := { name := "gateForces", fn := fun _ => fun
  | [d1, d2] => { results := [.lit (.bool false)], args := [d1, d2] }
  | _ => none }
def GateForcesWrongFalsely : Prop := gateForcesRow.holds Try.pinned (OpenSpec.ofChange gateForcesWrong)

/-- 'barragelaw03.GateKnown': WHATEVER THE INPUT: true; the input reads as it did. -/
def gateKnownSpec : ChangeSpec := { name := "gateKnown", fn := fun _ => fun
  | [] => { results := [.lit (.bool true)], args := [] }
  | _ => none }
def gateKnownRow : OpenClaim := { program := "ytdoklolinbmhpaa", sum := "95c379122bc7efc79ba84f2daced822f8a1ed49ccef62dff2e44545a430bbb4c", func := "barrage/barragelaw03.GateKnown", spec := "gateKnown", unfollowed := true, recurses := true, apart := false }
def GateKnownSaid : Prop := gateKnownRow.holds Try.pinned (OpenSpec.ofChange gateKnownSpec)

/-- ITS FALSE NEIGHBOUR: 'it returns false'. Refute it at one input. -/
def gateKnownWrong : ChangeSpec := { name := "gateKnown", fn := fun _ => fun
  | [] => { results := [.lit (.bool false)], args := [] }
  | _ => none }
def GateKnownWrongFalsely : Prop := gateKnownRow.holds Try.pinned (OpenSpec.ofChange gateKnownWrong)

/-- 'barragelaw03.GateLimits': WHATEVER THE INPUT: true; the input reads as it did. -/
def gateLimitsSpec : ChangeSpec := { name := "gateLimits", fn := fun _ => fun
  | [d1, d2, d3] => { results := [.lit (.bool true)], args := [d1, d2, d3] }
  | _ => none }
def gateLimitsRow : OpenClaim := { program := "ytdoklolinbmhpaa", sum := "95c379122bc7efc79ba84f2daced822f8a1ed49ccef62dff2e44545a430bbb4c", func := "barrage/barragelaw03.GateLimits", spec := "gateLimits", unfollowed := true, recurses := true, apart := false }
def GateLimitsSaid : Prop := gateLimitsRow.holds Try.pinned (OpenSpec.ofChange gateLimitsSpec)

/-- ITS FALSE NEIGHBOUR: 'it returns false'. Refute it at one input. -/
def gateLimitsWrong : ChangeSpec := { name := "gateLimits", fn := fun _ => fun
  | [d1, d2, d3] => { results := [.lit (.bool false)], args := [d1, d2, d3] }
  | _ => none }
def GateLimitsWrongFalsely : Prop := gateLimitsRow.holds Try.pinned (OpenSpec.ofChange gateLimitsWrong)

/-- 'barragelaw03.GateFalls': WHATEVER THE INPUT: true; the input reads as it did. -/
def gateFallsSpec : ChangeSpec := { name := "gateFalls", fn := fun _ => fun
  | [d1, d2, d3] => { results := [.lit (.bool true)], args := [d1, d2, d3] }
  | _ => none }
def gateFallsRow : OpenClaim := { program := "ytdoklolinbmhpaa", sum := "95c379122bc7efc79ba84f2daced822f8a1ed49ccef62dff2e44545a430bbb4c", func := "barrage/barragelaw03.GateFalls", spec := "gateFalls", unfollowed := true, recurses := true, apart := false }
def GateFallsSaid : Prop := gateFallsRow.holds Try.pinned (OpenSpec.ofChange gateFallsSpec)

/-- ITS FALSE NEIGHBOUR: 'it returns false'. Refute it at one input. -/
def gateFallsWrong : ChangeSpec := { name := "gateFalls", fn := fun _ => fun
  | [d1, d2, d3] => { results := [.lit (.bool false)], args := [d1, d2, d3] }
  | _ => none }
def GateFallsWrongFalsely : Prop := gateFallsRow.holds Try.pinned (OpenSpec.ofChange gateFallsWrong)

/-- 'barragelaw03.GateHeld': WHATEVER THE INPUT: true; the input reads as it did. -/
def gateHeldSpec : ChangeSpec := { name := "gateHeld", fn := fun _ => fun
  | [d1, d2, d3] => { results := [.lit (.bool true)], args := [d1, d2, d3] }
  | _ => none }
def gateHeldRow : OpenClaim := { program := "ytdoklolinbmhpaa", sum := "95c379122bc7efc79ba84f2daced822f8a1ed49ccef62dff2e44545a430bbb4c", func := "barrage/barragelaw03.GateHeld", spec := "gateHeld", unfollowed := true, recurses := true, apart := false }
def GateHeldSaid : Prop := gateHeldRow.holds Try.pinned (OpenSpec.ofChange gateHeldSpec)

/-- ITS FALSE NEIGHBOUR: 'it returns false'. Refute it at one input. -/
def gateHeldWrong : ChangeSpec := { name := "gateHeld", fn := fun _ => fun
  | [d1, d2, d3] => { results := [.lit (.bool false)], args := [d1, d2, d3] }
  | _ => none }
def GateHeldWrongFalsely : Prop := gateHeldRow.holds Try.pinned (OpenSpec.ofChange gateHeldWrong)

/-- 'barragelaw03.GateWhere': WHATEVER THE INPUT: true; the input reads as it did. -/
def gateWhereSpec : ChangeSpec := { name := "gateWhere", fn := fun _ => fun
  | [d1, d2, d3] => { results := [.lit (.bool true)], args := [d1, d2, d3] }
  | _ => none }
def gateWhereRow : OpenClaim := { program := "ytdoklolinbmhpaa", sum := "95c379122bc7efc79ba84f2daced822f8a1ed49ccef62dff2e44545a430bbb4c", func := "barrage/barragelaw03.GateWhere", spec := "gateWhere", unfollowed := true, recurses := true, apart := false }
def GateWhereSaid : Prop := gateWhereRow.holds Try.pinned (OpenSpec.ofChange gateWhereSpec)

/-- ITS FALSE NEIGHBOUR: 'it returns false'. Refute it at one input. -/
def gateWhereWrong : ChangeSpec := { name := "gateWhere", fn := fun _ => fun
  | [d1, d2, d3] => { results := [.lit (.bool false)], args := [d1, d2, d3] }
  | _ => none }
def GateWhereWrongFalsely : Prop := gateWhereRow.holds Try.pinned (OpenSpec.ofChange gateWhereWrong)

/-- 'barragelaw03.GateBolts': WHATEVER THE INPUT: true; the input reads as it did. -/
def gateBoltsSpec : ChangeSpec := { name := "gateBolts", fn := fun _ => fun
  | [d1, d2, d3] => { results := [.lit (.bool true)], args := [d1, d2, d3] }
  | _ => none }
def gateBoltsRow : OpenClaim := { program := "ytdoklolinbmhpaa", sum := "95c379122bc7efc79ba84f2daced822f8a1ed49ccef62dff2e44545a430bbb4c", func := "barrage/barragelaw03.GateBolts", spec := "gateBolts", unfollowed := true, recurses := true, apart := false }
def GateBoltsSaid : Prop := gateBoltsRow.holds Try.pinned (OpenSpec.ofChange gateBoltsSpec)

/-- ITS FALSE NEIGHBOUR: 'it returns false'. Refute it at one input. -/
def gateBoltsWrong : ChangeSpec := { name := "gateBolts", fn := fun _ => fun
  | [d1, d2, d3] => { results := [.lit (.bool false)], args := [d1, d2, d3] }
  | _ => none }
def GateBoltsWrongFalsely : Prop := gateBoltsRow.holds Try.pinned (OpenSpec.ofChange gateBoltsWrong)

/-- 'barragelaw03.GateShips': WHATEVER THE INPUT: true; the input reads as it did. -/
def gateShipsSpec : ChangeSpec := { name := "gateShips", fn := fun _ => fun
  | [d1, d2] => { results := [.lit (.bool true)], args := [d1, d2] }
  | _ => none }
def gateShipsRow : OpenClaim := { program := "ytdoklolinbmhpaa", sum := "95c379122bc7efc79ba84f2daced822f8a1ed49ccef62dff2e44545a430bbb4c", func := "barrage/barragelaw03.GateShips", spec := "gateShips", unfollowed := true, recurses := true, apart := false }
def GateShipsSaid : Prop := gateShipsRow.holds Try.pinned (OpenSpec.ofChange gateShipsSpec)

/-- ITS FALSE NEIGHBOUR: 'it returns false'. Refute it at one input. -/
def gateShipsWrong : ChangeSpec := { name := "gateShips", fn := fun _ => fun
  | [d1, d2] => { results := [.lit (.bool false)], args := [d1, d2] }
  | _ => none }
def GateShipsWrongFalsely : Prop := gateShipsRow.holds Try.pinned (OpenSpec.ofChange gateShipsWrong)

/-- 'barragelaw03.GateInTime': WHATEVER THE INPUT: true; the input reads as it did. -/
def gateInTimeSpec : ChangeSpec := { name := "gateInTime", fn := fun _ => fun
  | [d1, d2, d3] => { results := [.lit (.bool true)], args := [d1, d2, d3] }
  | _ => none }
def gateInTimeRow : OpenClaim := { program := "ytdoklolinbmhpaa", sum := "95c379122bc7efc79ba84f2daced822f8a1ed49ccef62dff2e44545a430bbb4c", func := "barrage/barragelaw03.GateInTime", spec := "gateInTime", unfollowed := true, recurses := true, apart := false }
def GateInTimeSaid : Prop := gateInTimeRow.holds Try.pinned (OpenSpec.ofChange gateInTimeSpec)

/-- ITS FALSE NEIGHBOUR: 'it returns false'. Refute it at one input. -/
def gateInTimeWrong : ChangeSpec := { name := "gateInTime", fn := fun _ => fun
  | [d1, d2, d3] => { results := [.lit (.bool false)], args := [d1, d2, d3] }
  | _ => none }
def GateInTimeWrongFalsely : Prop := gateInTimeRow.holds Try.pinned (OpenSpec.ofChange gateInTimeWrong)

/-- 'barragelaw03.GateLatest': WHATEVER THE INPUT: true; the input reads as it did. -/
def gateLatestSpec : ChangeSpec := { name := "gateLatest", fn := fun _ => fun
  | [d1, d2, d3] => { results := [.lit (.bool true)], args := [d1, d2, d3] }
  | _ => none }
def gateLatestRow : OpenClaim := { program := "ytdoklolinbmhpaa", sum := "95c379122bc7efc79ba84f2daced822f8a1ed49ccef62dff2e44545a430bbb4c", func := "barrage/barragelaw03.GateLatest", spec := "gateLatest", unfollowed := true, recurses := true, apart := false }
def GateLatestSaid : Prop := gateLatestRow.holds Try.pinned (OpenSpec.ofChange gateLatestSpec)

/-- ITS FALSE NEIGHBOUR: 'it returns false'. Refute it at one input. -/
def gateLatestWrong : ChangeSpec := { name := "gateLatest", fn := fun _ => fun
  | [d1, d2, d3] => { results := [.lit (.bool false)], args := [d1, d2, d3] }
  | _ => none }
def GateLatestWrongFalsely : Prop := gateLatestRow.holds Try.pinned (OpenSpec.ofChange gateLatestWrong)

/-- 'barragelaw03.GateAgain': WHATEVER THE INPUT: true; the input reads as it did. -/
def gateAgainSpec : ChangeSpec := { name := "gateAgain", fn := fun _ => fun
  | [d1, d2, d3] => { results := [.lit (.bool true)], args := [d1, d2, d3] }
  | _ => none }
def gateAgainRow : OpenClaim := { program := "ytdoklolinbmhpaa", sum := "95c379122bc7efc79ba84f2daced822f8a1ed49ccef62dff2e44545a430bbb4c", func := "barrage/barragelaw03.GateAgain", spec := "gateAgain", unfollowed := true, recurses := true, apart := false }
def GateAgainSaid : Prop := gateAgainRow.holds Try.pinned (OpenSpec.ofChange gateAgainSpec)

/-- ITS FALSE NEIGHBOUR: 'it returns false'. Refute it at one input. -/
def gateAgainWrong : ChangeSpec := { name := "gateAgain", fn := fun _ => fun
  | [d1, d2, d3] => { results := [.lit (.bool false)], args := [d1, d2, d3] }
  | _ => none }
def GateAgainWrongFalsely : Prop := gateAgainRow.holds Try.pinned (OpenSpec.ofChange gateAgainWrong)

/- THE SECOND FORM. 'bulk': how many values and letters a reading holds, each counted each time it is reached (what is shared counts as often as it is met; a slice's spare places count too). A statement '..UptoSaid' is the law's where the arguments, and the package variables that the reading takes, are together of bulk at most 1048576: NARROWER than '..Said'. Prove '..Said' where nothing that the law and all that it calls make is longer than what came in: it says more and counts as full. Else prove '..UptoSaid'. A law counts once. -/
mutual
def uptoBulk {H : Type} : DataW H → Nat
  | .lit (.string bytes) => bytes.length + 1
  | .lit _ => 1
  | .nil => 1
  | .ptr d => uptoBulk d + 1
  | .slice elems spare => uptoBulkAll elems + uptoBulkAll spare + 1
  | .agg parts => uptoBulkAll parts + 1
  | .iface _ d => uptoBulk d + 1
  | .map entries => uptoBulkEntries entries + 1
  | .held _ => 1
def uptoBulkAll {H : Type} : List (DataW H) → Nat
  | [] => 0
  | d :: r => uptoBulk d + uptoBulkAll r
def uptoBulkEntries {H : Type} : List (Lit × DataW H) → Nat
  | [] => 0
  | x :: r => uptoBulkEntry x + uptoBulkEntries r
def uptoBulkEntry {H : Type} : Lit × DataW H → Nat
  | (.string bytes, d) => bytes.length + uptoBulk d + 1
  | (_, d) => uptoBulk d + 1
 end
def uptoSmall : (H : Type) → List (DataW H) → Bool := fun _ ds => decide (uptoBulkAll ds ≤ 1048576)
def OpenSpec.upto (s : _root_.Go.ChangeSpec) : _root_.Go.OpenSpec := { _root_.Go.OpenSpec.ofChange s with cond := some uptoSmall }

/-- 'barragelaw03.GateChecks', WHERE WHAT IT READS IS OF BULK AT MOST 1048576: true; the input reads as it did. -/
def gateChecksUptoRow : OpenClaim := { program := "ytdoklolinbmhpaa", sum := "95c379122bc7efc79ba84f2daced822f8a1ed49ccef62dff2e44545a430bbb4c", func := "barrage/barragelaw03.GateChecks", spec := "gateChecks", unfollowed := true, recurses := true, apart := false, narrowed := true }
def GateChecksUptoSaid : Prop := gateChecksUptoRow.holds Try.pinned (OpenSpec.upto gateChecksSpec)

/-- 'barragelaw03.GateForces', WHERE WHAT IT READS IS OF BULK AT MOST 1048576: true; the input reads as it did. -/
def gateForcesUptoRow : OpenClaim := { program := "ytdoklolinbmhpaa", sum := "95c379122bc7efc79ba84f2daced822f8a1ed49ccef62dff2e44545a430bbb4c", func := "barrage/barragelaw03.GateForces", spec := "gateForces", unfollowed := true, recurses := true, apart := false, narrowed := true }
def GateForcesUptoSaid : Prop := gateForcesUptoRow.holds Try.pinned (OpenSpec.upto gateForcesSpec)

/-- 'barragelaw03.GateKnown', WHERE WHAT IT READS IS OF BULK AT MOST 1048576: true; the input reads as it did. -/
def gateKnownUptoRow : OpenClaim := { program := "ytdoklolinbmhpaa", sum := "95c379122bc7efc79ba84f2daced822f8a1ed49ccef62dff2e44545a430bbb4c", func := "barrage/barragelaw03.GateKnown", spec := "gateKnown", unfollowed := true, recurses := true, apart := false, narrowed := true }
def GateKnownUptoSaid : Prop := gateKnownUptoRow.holds Try.pinned (OpenSpec.upto gateKnownSpec)

/-- 'barragelaw03.GateLimits', WHERE WHAT IT READS IS OF BULK AT MOST 1048576: true; the input reads as it did. -/
def gateLimitsUptoRow : OpenClaim := { program := "ytdoklolinbmhpaa", sum := "95c379122bc7efc79ba84f2daced822f8a1ed49ccef62dff2e44545a430bbb4c", func := "barrage/barragelaw03.GateLimits", spec := "gateLimits", unfollowed := true, recurses := true, apart := false, narrowed := true }
def GateLimitsUptoSaid : Prop := gateLimitsUptoRow.holds Try.pinned (OpenSpec.upto gateLimitsSpec)

/-- 'barragelaw03.GateFalls', WHERE WHAT IT READS IS OF BULK AT MOST 1048576: true; the input reads as it did. -/
def gateFallsUptoRow : OpenClaim := { program := "ytdoklolinbmhpaa", sum := "95c379122bc7efc79ba84f2daced822f8a1ed49ccef62dff2e44545a430bbb4c", func := "barrage/barragelaw03.GateFalls", spec := "gateFalls", unfollowed := true, recurses := true, apart := false, narrowed := true }
def GateFallsUptoSaid : Prop := gateFallsUptoRow.holds Try.pinned (OpenSpec.upto gateFallsSpec)

/-- 'barragelaw03.GateHeld', WHERE WHAT IT READS IS OF BULK AT MOST 1048576: true; the input reads as it did. -/
def gateHeldUptoRow : OpenClaim := { program := "ytdoklolinbmhpaa", sum := "95c379122bc7efc79ba84f2daced822f8a1ed49ccef62dff2e44545a430bbb4c", func := "barrage/barragelaw03.GateHeld", spec := "gateHeld", unfollowed := true, recurses := true, apart := false, narrowed := true }
def GateHeldUptoSaid : Prop := gateHeldUptoRow.holds Try.pinned (OpenSpec.upto gateHeldSpec)

/-- 'barragelaw03.GateWhere', WHERE WHAT IT READS IS OF BULK AT MOST 1048576: true; the input reads as it did. -/
def gateWhereUptoRow : OpenClaim := { program := "ytdoklolinbmhpaa", sum := "95c379122bc7efc79ba84f2daced822f8a1ed49ccef62dff2e44545a430bbb4c", func := "barrage/barragelaw03.GateWhere", spec := "gateWhere", unfollowed := true, recurses := true, apart := false, narrowed := true }
def GateWhereUptoSaid : Prop := gateWhereUptoRow.holds Try.pinned (OpenSpec.upto gateWhereSpec)

/-- 'barragelaw03.GateBolts', WHERE WHAT IT READS IS OF BULK AT MOST 1048576: true; the input reads as it did. -/
def gateBoltsUptoRow : OpenClaim := { program := "ytdoklolinbmhpaa", sum := "95c379122bc7efc79ba84f2daced822f8a1ed49ccef62dff2e44545a430bbb4c", func := "barrage/barragelaw03.GateBolts", spec := "gateBolts", unfollowed := true, recurses := true, apart := false, narrowed := true }
def GateBoltsUptoSaid : Prop := gateBoltsUptoRow.holds Try.pinned (OpenSpec.upto gateBoltsSpec)

/-- 'barragelaw03.GateShips', WHERE WHAT IT READS IS OF BULK AT MOST 1048576: true; the input reads as it did. -/
def gateShipsUptoRow : OpenClaim := { program := "ytdoklolinbmhpaa", sum := "95c379122bc7efc79ba84f2daced822f8a1ed49ccef62dff2e44545a430bbb4c", func := "barrage/barragelaw03.GateShips", spec := "gateShips", unfollowed := true, recurses := true, apart := false, narrowed := true }
def GateShipsUptoSaid : Prop := gateShipsUptoRow.holds Try.pinned (OpenSpec.upto gateShipsSpec)

/-- 'barragelaw03.GateInTime', WHERE WHAT IT READS IS OF BULK AT MOST 1048576: true; the input reads as it did. -/
def gateInTimeUptoRow : OpenClaim := { program := "ytdoklolinbmhpaa", sum := "95c379122bc7efc79ba84f2daced822f8a1ed49ccef62dff2e44545a430bbb4c", func := "barrage/barragelaw03.GateInTime", spec := "gateInTime", unfollowed := true, recurses := true, apart := false, narrowed := true }
def GateInTimeUptoSaid : Prop := gateInTimeUptoRow.holds Try.pinned (OpenSpec.upto gateInTimeSpec)

/-- 'barragelaw03.GateLatest', WHERE WHAT IT READS IS OF BULK AT MOST 1048576: true; the input reads as it did. -/
def gateLatestUptoRow : OpenClaim := { program := "ytdoklolinbmhpaa", sum := "95c379122bc7efc79ba84f2daced822f8a1ed49ccef62dff2e44545a430bbb4c", func := "barrage/barragelaw03.GateLatest", spec := "gateLatest", unfollowed := true, recurses := true, apart := false, narrowed := true }
def GateLatestUptoSaid : Prop := gateLatestUptoRow.holds Try.pinned (OpenSpec.upto gateLatestSpec)

/-- 'barragelaw03.GateAgain', WHERE WHAT IT READS IS OF BULK AT MOST 1048576: true; the input reads as it did. -/
def gateAgainUptoRow : OpenClaim := { program := "ytdoklolinbmhpaa", sum := "95c379122bc7efc79ba84f2daced822f8a1ed49ccef62dff2e44545a430bbb4c", func := "barrage/barragelaw03.GateAgain", spec := "gateAgain", unfollowed := true, recurses := true, apart := false, narrowed := true }
def GateAgainUptoSaid : Prop := gateAgainUptoRow.holds Try.pinned (OpenSpec.upto gateAgainSpec)

end Rows
end Go.Proofs.Ytdoklolinbmhpaa
