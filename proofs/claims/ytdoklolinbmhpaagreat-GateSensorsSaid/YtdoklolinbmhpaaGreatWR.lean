/- Gate, part WR: arguments opened: readings, and whether bolts are set. -/
import Derived.Test.YtdoklolinbmhpaaGreatWS
set_option linter.all false
namespace Go.Proofs.YtdoklolinbmhpaaGreat
open Go.ChangeShapes Go.WideShapes Go.ChangeAt Go.RowKit Go.Deep

section
variable {H : Type} {enc : TypeId × Value → H} {W : World}
set_option maxRecDepth 100000 in
/-- Readings, and whether bolts are set. -/
theorem read_of_trod {n : Nat} {cs : List Value} {y : DataW H × List MemPlace} (h : DataW.trod enc Tryz.prog W 0 (fun _ => true) true n 48 cs = some y)
    (hw : ∀ q ∈ DataW.weights Tryz.prog 48 y.1, q ≤ reachBytes) (hlt : ∀ q ∈ y.2, q.block < W.heap.size) :
    ∃ (a : Option Addr) (l : List Int) (cap : Nat) (on : Bool), cs = [.slice a l.length cap, .bool on] ∧ (l.length ≤ cap ∧ l.length ≤ 140737488355328 ∧ ∀ x ∈ l, I64 x) ∧ IntsAt W a l := by
  obtain ⟨xs, m, _, rfl, hl, hxl, hf⟩ := DataW.trod_struct Tryz.underlying48 h
  rw [show Tryz.prog.cellsOf 48 = 2 by kernel_rfl] at hl
  match cs, hl, xs, hxl with
  | [c0, c1], _, [y0, y1], _ =>
    have h0 := hf 0 _ rfl
    have h1 := hf 1 _ rfl
    clear hf
    simp [Tryz.cellsInts, show Tryz.prog.cellsOf 4 = 1 by kernel_rfl] at h0 h1
    simp only [DataW.weights, Tryz.underlying48, List.map, List.toList_toArray, DataW.weightsEach, List.mem_append] at hw
    simp only [List.flatMap_cons, List.flatMap_nil, List.append_nil, List.mem_append] at hlt
    obtain ⟨a, l, cap, e2, hl2, hi2⟩ := introw_of_trod h0 (fun q hq => hw q (by simp [hq])) (fun q hq => hlt q (by simp [hq]))
    obtain ⟨on, rfl⟩ := bool_of_trod h1
    simp only [List.cons.injEq, and_true] at e2
    subst e2
    exact ⟨a, l, cap, on, rfl, hl2, hi2⟩
end
end Go.Proofs.YtdoklolinbmhpaaGreat
