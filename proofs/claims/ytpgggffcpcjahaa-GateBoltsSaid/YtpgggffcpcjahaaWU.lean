/- Gate, part WU: arguments opened: a state and readings. -/
import Derived.Test.YtpgggffcpcjahaaWS
set_option linter.all false
namespace Go.Proofs.Ytpgggffcpcjahaa
open Go.ChangeShapes Go.WideShapes Go.ChangeAt Go.RowKit Go.Deep

section
variable {H : Type} {enc : TypeId × Value → H} {W : World}
set_option maxRecDepth 100000 in
/-- A state, and readings. -/
theorem bolts_of_trod {n : Nat} {cs : List Value} {y : DataW H × List MemPlace} (h : DataW.trod enc Try.prog W 0 (fun _ => true) true n 75 cs = some y)
    (hw : ∀ q ∈ DataW.weights Try.prog 75 y.1, q ≤ reachBytes) (hlt : ∀ q ∈ y.2, q.block < W.heap.size) :
    ∃ (s : St) (a : Option Addr) (l : List Int) (cap : Nat), cs = [.int .i64 s.pos, .int .i64 s.charge, .bool s.bolted, .slice a l.length cap] ∧ (l.length ≤ cap ∧ l.length ≤ 140737488355328 ∧ ∀ x ∈ l, I64 x) ∧ IntsAt W a l := by
  obtain ⟨xs, m, _, rfl, hl, hxl, hf⟩ := DataW.trod_struct Try.underlying75 h
  rw [show Try.prog.cellsOf 75 = 4 by kernel_rfl] at hl
  match cs, hl, xs, hxl with
  | [c0, c1, c2, c3], _, [y0, y1], _ =>
    have h0 := hf 0 _ rfl
    have h1 := hf 1 _ rfl
    clear hf
    simp [Try.cellsSt, Try.cellsInts] at h0 h1
    simp only [DataW.weights, Try.underlying75, List.map, List.toList_toArray, DataW.weightsEach, List.mem_append] at hw
    simp only [List.flatMap_cons, List.flatMap_nil, List.append_nil, List.mem_append] at hlt
    obtain ⟨s, e, _⟩ := st_of_trod h0 (fun q hq => hw q (by simp [hq])) (fun q hq => hlt q (by simp [hq]))
    obtain ⟨a, l, cap, e2, hl2, hi2⟩ := introw_of_trod h1 (fun q hq => hw q (by simp [hq])) (fun q hq => hlt q (by simp [hq]))
    simp only [stL, List.cons.injEq, and_true] at e e2
    obtain ⟨rfl, rfl, rfl⟩ := e
    subst e2
    exact ⟨s, a, l, cap, rfl, hl2, hi2⟩
end
end Go.Proofs.Ytpgggffcpcjahaa
