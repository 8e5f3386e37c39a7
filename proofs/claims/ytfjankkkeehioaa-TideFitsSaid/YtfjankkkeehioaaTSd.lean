/- Tide, part Sd: arguments opened: levels that are told. -/
import Derived.Test.YtfjankkkeehioaaTS
import Derived.Test.YtfjankkkeehioaaZA
set_option linter.all false
namespace Go.Proofs.Ytfjankkkeehioaa
open Go.ChangeShapes Go.WideShapes Go.ChangeAt Go.RowKit Go.Deep

theorem Try.bytesSpan : Try.prog.bytesOf 32 = 16 := by kernel_rfl
theorem Try.cellsTold : Try.prog.cellsOf 58 = 3 := by kernel_rfl
section
variable {H : Type} {enc : TypeId × Value → H} {W : World}
theorem spn_of_trod (b o n : Nat) (cs : List Value) (y : DataW H × List MemPlace) (hcell : ∀ i, i < 2 → W.cell? ⟨b, o + i, none⟩ = cs[i]?) (hl : cs.length = 2)
    (h : DataW.trod enc Try.prog W 0 (fun _ => true) true n 32 cs = some y) : ∃ d : Int × Int, (W.cell? ⟨b, o, none⟩ = some (.int .i64 d.1) ∧ W.cell? ⟨b, o + 1, none⟩ = some (.int .i64 d.2)) ∧ (I64 d.1 ∧ I64 d.2) := by
  match cs, hl with
  | [c0, c1], _ =>
    obtain ⟨y0, y1, m, _, _, h0, h1⟩ := trod_struct2 Try.underlying32 h
    obtain ⟨x0, rfl, w0⟩ := int_of_trod (by simpa [Try.cellsInt] using h0)
    obtain ⟨x1, rfl, w1⟩ := int_of_trod (by simpa [Try.cellsInt] using h1)
    exact ⟨(x0, x1), ⟨by simpa using hcell 0 (by omega), by simpa using hcell 1 (by omega)⟩, w0, w1⟩
theorem spanrow_of_trod {fuel : Nat} {cs : List Value} {x : DataW H × List MemPlace} (h : DataW.trod enc Try.prog W 0 (fun _ => true) true fuel 35 cs = some x)
    (hw : ∀ n ∈ DataW.weights Try.prog 35 x.1, n ≤ reachBytes) (hlt : ∀ q ∈ x.2, q.block < W.heap.size) :
    ∃ (a : Option Addr) (l : List (Int × Int)) (cap : Nat), cs = [.slice a l.length cap] ∧ l.length ≤ 140737488355328 ∧ (∀ x ∈ l, I64 x.1 ∧ I64 x.2) ∧ SpansAt W a l := by
  obtain ⟨a, l, cap, e, h1, h2, h3, h4⟩ := rows_of_trod (fun w b o (x : Int × Int) => w.cell? ⟨b, o, none⟩ = some (.int .i64 x.1) ∧ w.cell? ⟨b, o + 1, none⟩ = some (.int .i64 x.2)) (fun x => I64 x.1 ∧ I64 x.2) 2 16 Try.underlying35 Try.cellsSpan Try.bytesSpan (by omega) (by omega)
    (fun b o n cs y hc hl h _ _ => spn_of_trod b o n cs y hc hl h) h hw hlt
  exact ⟨a, l, cap, e, Nat.le_trans h1 h2, h3, h4⟩
set_option maxRecDepth 100000 in
/-- Levels that are told, as they are read before the call. -/
theorem told_of_trod {n : Nat} {cs : List Value} {y : DataW H × List MemPlace} (h : DataW.trod enc Try.prog W 0 (fun _ => true) true n 58 cs = some y)
    (hw : ∀ q ∈ DataW.weights Try.prog 58 y.1, q ≤ reachBytes) (hlt : ∀ q ∈ y.2, q.block < W.heap.size) :
    ∃ (x0 x1 : Int) (a : Option Addr) (l : List (Int × Int)) (cap : Nat), cs = [.int .i64 x0, .int .i64 x1, .slice a l.length cap] ∧ l.length ≤ 140737488355328 ∧ SpansAt W a l := by
  obtain ⟨xs, m, _, rfl, hl, hxl, hf⟩ := DataW.trod_struct Try.underlying58 h
  rw [Try.cellsTold] at hl
  match cs, hl, xs, hxl with
  | [c0, c1, c2], _, [y0, y1, y2], _ =>
    have h0 := hf 0 _ rfl
    have h1 := hf 1 _ rfl
    have h2 := hf 2 _ rfl
    have k2 : Try.prog.cellsOf 35 = 1 := by kernel_rfl
    simp [Try.cellsInt, k2] at h0 h1 h2
    obtain ⟨x0, rfl, w0⟩ := int_of_trod h0
    obtain ⟨x1, rfl, w1⟩ := int_of_trod h1
    simp only [DataW.weights, Try.underlying58, List.map, List.toList_toArray, DataW.weightsEach, List.mem_append] at hw
    simp only [List.flatMap_cons, List.flatMap_nil, List.append_nil, List.mem_append] at hlt
    obtain ⟨a, l, p, e, u, _, r⟩ := spanrow_of_trod h2 (fun q hq => hw q (by simp [hq])) (fun q hq => hlt q (by simp [hq]))
    simp only [List.cons.injEq, and_true] at e
    subst e
    exact ⟨x0, x1, a, l, p, rfl, u, r⟩
end
end Go.Proofs.Ytfjankkkeehioaa
