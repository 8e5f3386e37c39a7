/-
  No cell of these rows narrows 'for every input' (looked for: loops, veiled, ifaces, maps, wideKeys, modest, calm, conditions, laid).
  DERIVED. THE GIVEN ROWS OF THIS SEAT. 2 by the template 'for every input the law returns true; each argument reads behind the call as it read before'; 0 by the template 'total and deterministic' (their statements: YtblneiegekdnjaaGreatTotals.lean).
  GIVEN WITH THE SEED: the statements are not yours to turn. If you find one false, say at which input.
  Laid BY PROGRAM, IN A SANDBOX (cutbox-rows.mjs): the forced cells as the released guide's own fill.sh prints them over the translation 66fab7a0e159ebef… (all of the seat's roots in one cut). By AI agents, Wed Nov 11 2026. No macro, syntax, notation, axiom, sorry.
-/
import Derived.Test.YtblneiegekdnjaaGreatChecked
import GoSem.Claim
import GoSem.ClaimJoined
import GoSem.ClaimMapViews
import Derived.JoinedTies
import Derived.KernelRfl
namespace Go.Proofs.YtblneiegekdnjaaGreat
/- THE CELL 'sum', in the pinned program and in every row, IS THE sha256 OF THE DUMP (.gsa) THAT YtblneiegekdnjaaGreatProg.lean LOADS. Nothing in Lean hashes anything: it is a label: what it is worth is what the hold of that sum in a sandbox is worth. -/
noncomputable def Tryz.pinned : Pinned := { name := "ytblneiegekdnjaagreat", sum := "66fab7a0e159ebef3e401947faebcc85fd2125c0a70e437b40e205b21de26f95", checked := Tryz.checked }
namespace Rows
def none {H : Type} : Left H := { results := [], args := [] }

/-- 'barragelaw01.TideHighs': WHATEVER THE INPUT: true; the input reads as it did. -/
def tideHighsSpec : ChangeSpec := { name := "tideHighs", fn := fun _ => fun
  | [d1, d2, d3] => { results := [.lit (.bool true)], args := [d1, d2, d3] }
  | _ => none }
def tideHighsRow : OpenClaim := { program := "ytblneiegekdnjaagreat", sum := "66fab7a0e159ebef3e401947faebcc85fd2125c0a70e437b40e205b21de26f95", func := "barrage/barragelaw01.TideHighs", spec := "tideHighs", unfollowed := true, recurses := true, apart := false }
def TideHighsSaid : Prop := tideHighsRow.holds Tryz.pinned (OpenSpec.ofChange tideHighsSpec)

/-- ITS FALSE NEIGHBOUR: 'it returns false'. Refute it at one input. -/
def tideHighsWrong : ChangeSpec := { name := "tideHighs", fn := fun _ => fun
  | [d1, d2, d3] => { results := [.lit (.bool false)], args := [d1, d2, d3] }
  | _ => none }
def TideHighsWrongFalsely : Prop := tideHighsRow.holds Tryz.pinned (OpenSpec.ofChange tideHighsWrong)

/-- 'barragelaw01.TideResiduals': WHATEVER THE INPUT: true; the input reads as it did. -/
def tideResidualsSpec : ChangeSpec := { name := "tideResiduals", fn := fun _ => fun
  | [d1, d2, d3] => { results := [.lit (.bool true)], args := [d1, d2, d3] }
  | _ => none }
def tideResidualsRow : OpenClaim := { program := "ytblneiegekdnjaagreat", sum := "66fab7a0e159ebef3e401947faebcc85fd2125c0a70e437b40e205b21de26f95", func := "barrage/barragelaw01.TideResiduals", spec := "tideResiduals", unfollowed := true, recurses := true, apart := false }
def TideResidualsSaid : Prop := tideResidualsRow.holds Tryz.pinned (OpenSpec.ofChange tideResidualsSpec)

/-- ITS FALSE NEIGHBOUR: 'it returns false'. Refute it at one input. -/
def tideResidualsWrong : ChangeSpec := { name := "tideResiduals", fn := fun _ => fun
  | [d1, d2, d3] => { results := [.lit (.bool false)], args := [d1, d2, d3] }
  | _ => none }
def TideResidualsWrongFalsely : Prop := tideResidualsRow.holds Tryz.pinned (OpenSpec.ofChange tideResidualsWrong)

/- THE SECOND FORM. 'bulk': how many values and letters a reading holds, each counted each time it is reached (what is shared counts as often as it is met; a slice's spare places count too). A statement '..UptoSaid' is the law's where the arguments, and the package variables that the reading takes, are together of bulk at most 1048576: NARROWER than '..Said'. Prove '..Said' where nothing that the law and all that it calls make is longer than what came in: it says more and counts as full. Else prove '..UptoSaid'. A law counts once. -/
mutual
def uptoBulk {H : Type} : DataW H → Nat
  | .lit (.string bytes) => bytes.length + 1
  | .lit _ => 1
  | .nil => 1
  | .ptr d => uptoBulk d + 1
  | .slice elems spare => uptoBulkAll elems + uptoBulkAll spare + 1
  | .agg parts => uptoBulkAll parts + 1
  | .iface _ d => uptoBulk d + 1
  | .map entries => uptoBulkEntries entries + 1
  | .held _ => 1
def uptoBulkAll {H : Type} : List (DataW H) → Nat
  | [] => 0
  | d :: r => uptoBulk d + uptoBulkAll r
def uptoBulkEntries {H : Type} : List (Lit × DataW H) → Nat
  | [] => 0
  | x :: r => uptoBulkEntry x + uptoBulkEntries r
def uptoBulkEntry {H : Type} : Lit × DataW H → Nat
  | (.string bytes, d) => bytes.length + uptoBulk d + 1
  | (_, d) => uptoBulk d + 1
 end
def uptoSmall : (H : Type) → List (DataW H) → Bool := fun _ ds => decide (uptoBulkAll ds ≤ 1048576)
def OpenSpec.upto (s : _root_.Go.ChangeSpec) : _root_.Go.OpenSpec := { _root_.Go.OpenSpec.ofChange s with cond := some uptoSmall }

/-- 'barragelaw01.TideHighs', WHERE WHAT IT READS IS OF BULK AT MOST 1048576: true; the input reads as it did. -/
def tideHighsUptoRow : OpenClaim := { program := "ytblneiegekdnjaagreat", sum := "66fab7a0e159ebef3e401947faebcc85fd2125c0a70e437b40e205b21de26f95", func := "barrage/barragelaw01.TideHighs", spec := "tideHighs", unfollowed := true, recurses := true, apart := false, narrowed := true }
def TideHighsUptoSaid : Prop := tideHighsUptoRow.holds Tryz.pinned (OpenSpec.upto tideHighsSpec)

/-- 'barragelaw01.TideResiduals', WHERE WHAT IT READS IS OF BULK AT MOST 1048576: true; the input reads as it did. -/
def tideResidualsUptoRow : OpenClaim := { program := "ytblneiegekdnjaagreat", sum := "66fab7a0e159ebef3e401947faebcc85fd2125c0a70e437b40e205b21de26f95", func := "barrage/barragelaw01.TideResiduals", spec := "tideResiduals", unfollowed := true, recurses := true, apart := false, narrowed := true }
def TideResidualsUptoSaid : Prop := tideResidualsUptoRow.holds Tryz.pinned (OpenSpec.upto tideResidualsSpec)

end Rows
end Go.Proofs.YtblneiegekdnjaaGreat
