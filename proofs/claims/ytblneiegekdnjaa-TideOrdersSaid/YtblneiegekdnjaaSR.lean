/- Tide, part SR: arguments opened: gauges in a row; what is asked of them. -/
import Derived.Test.YtblneiegekdnjaaSC
import Derived.Test.YtblneiegekdnjaaTSb
import Derived.Test.YtblneiegekdnjaaTSc
set_option linter.all false
namespace Go.Proofs.Ytblneiegekdnjaa
open Go.ChangeShapes Go.WideShapes Go.ChangeAt Go.RowKit Go.Deep

theorem Try.bytesGau : Try.prog.bytesOf 43 = 80 := by kernel_rfl
theorem Try.cellsAt : Try.prog.cellsOf 50 = 3 := by kernel_rfl
theorem Try.cellsTwo : Try.prog.cellsOf 88 = 5 := by kernel_rfl
instance : Inhabited GPos := ⟨⟨none, 0, none, 0⟩⟩
section
variable {H : Type} {enc : TypeId × Value → H} {W : World}
theorem gaurow_of_trod {fuel : Nat} {cs : List Value} {x : DataW H × List MemPlace} (h : DataW.trod enc Try.prog W 0 (fun _ => true) true fuel 48 cs = some x)
    (hw : ∀ n ∈ DataW.weights Try.prog 48 x.1, n ≤ reachBytes) (hlt : ∀ q ∈ x.2, q.block < W.heap.size) :
    ∃ (a : Option Addr) (gs : List Gau) (cap : Nat), cs = [.slice a gs.length cap] ∧ (gs.length ≤ cap ∧ gs.length ≤ 140737488355328) ∧ GausAt W a gs := by
  obtain ⟨a, l, cap, e, h1, h2, h3, h4⟩ := rows_of_trod (α := Gau × GPos) (fun w b o x => GauAt w b o x.1 x.2 ∧ GauOk w x.2 x.1) (fun _ => True) 5 80 Try.underlying48 Try.cellsGau Try.bytesGau (by omega) (by omega)
    (fun b o n cs y hc hl h hw hlt => by
      obtain ⟨g, p, rfl, hok⟩ := gau_of_trod h hw hlt
      exact ⟨(g, p), ⟨⟨by simpa using hc 0 (by omega), by simpa using hc 1 (by omega), by simpa using hc 2 (by omega), by simpa using hc 3 (by omega), by simpa using hc 4 (by omega)⟩, hok⟩, trivial⟩) h hw hlt
  refine ⟨a, l.map Prod.fst, cap, by simpa using e, ⟨by simpa using h1, by rw [List.length_map]; omega⟩, ?_⟩
  rcases h4 with h4 | ⟨b, o, ha, hb, hc⟩
  · left; rw [h4]; rfl
  · refine .inr ⟨b, o, fun i => (l.getD i default).2, ha, hb, fun i hi => ?_⟩
    have hi' : i < l.length := by simpa using hi
    have := hc i hi'
    simp only [List.getElem_map, show l.getD i default = l[i] by simp [List.getD, hi']]
    exact this
set_option maxRecDepth 100000 in
theorem at_of_trod {n : Nat} {cs : List Value} {y : DataW H × List MemPlace} (h : DataW.trod enc Try.prog W 0 (fun _ => true) true n 50 cs = some y)
    (hw : ∀ q ∈ DataW.weights Try.prog 50 y.1, q ≤ reachBytes) (hlt : ∀ q ∈ y.2, q.block < W.heap.size) :
    ∃ (a b c : Int), cs = [.int .i64 a, .int .i64 b, .int .i64 c] ∧ I64 a ∧ I64 b ∧ I64 c := by
  obtain ⟨xs, m, _, rfl, hl, hxl, hf⟩ := DataW.trod_struct Try.underlying50 h
  rw [Try.cellsAt] at hl
  match cs, hl, xs, hxl with
  | [c0, c1, c2], _, [y0, y1, y2], _ =>
    have h0 := hf 0 _ rfl
    have h1 := hf 1 _ rfl
    have h2 := hf 2 _ rfl
    simp [Try.cellsInt] at h0 h1 h2
    obtain ⟨x0, rfl, w0⟩ := int_of_trod h0
    obtain ⟨x1, rfl, w1⟩ := int_of_trod h1
    obtain ⟨x2, rfl, w2⟩ := int_of_trod h2
    exact ⟨x0, x1, x2, rfl, w0, w1, w2⟩
theorem u8_of_trod {n : Nat} {c : Value} {y : DataW H × List MemPlace} (h : DataW.trod enc Try.prog W 0 (fun _ => true) true n 5 [c] = some y) : ∃ x : Int, c = .int .u8 x ∧ 0 ≤ x ∧ x ≤ 255 := by
  obtain ⟨x0, hx, _, w0⟩ := DataW.trod_int Try.underlying5 h
  refine ⟨x0, by simpa using hx, ?_⟩
  simp [Lit.wf, IntKind.min, IntKind.max, IntKind.signed, IntKind.bits] at w0
  omega
set_option maxRecDepth 100000 in
theorem two_of_trod {n : Nat} {cs : List Value} {y : DataW H × List MemPlace} (h : DataW.trod enc Try.prog W 0 (fun _ => true) true n 88 cs = some y)
    (hw : ∀ q ∈ DataW.weights Try.prog 88 y.1, q ≤ reachBytes) (hlt : ∀ q ∈ y.2, q.block < W.heap.size) :
    ∃ (a b c s r : Int), cs = [.int .i64 a, .int .i64 b, .int .i64 c, .int .u8 s, .int .u8 r] ∧ (0 ≤ s ∧ s ≤ 255) ∧ 0 ≤ r ∧ r ≤ 255 := by
  obtain ⟨xs, m, _, rfl, hl, hxl, hf⟩ := DataW.trod_struct Try.underlying88 h
  rw [Try.cellsTwo] at hl
  match cs, hl, xs, hxl with
  | [c0, c1, c2, c3, c4], _, [y0, y1, y2], _ =>
    have h0 := hf 0 _ rfl
    have h1 := hf 1 _ rfl
    have h2 := hf 2 _ rfl
    simp [Try.cellsAt, Try.cellsU8] at h0 h1 h2
    simp only [DataW.weights, Try.underlying88, List.map, List.toList_toArray, DataW.weightsEach, List.mem_append] at hw
    simp only [List.flatMap_cons, List.flatMap_nil, List.append_nil, List.mem_append] at hlt
    obtain ⟨a, b, c, e, _⟩ := at_of_trod h0 (fun q hq => hw q (by simp [hq])) (fun q hq => hlt q (by simp [hq]))
    obtain ⟨s, rfl, w1⟩ := u8_of_trod h1
    obtain ⟨r, rfl, w2⟩ := u8_of_trod h2
    simp only [List.cons.injEq, and_true] at e
    obtain ⟨rfl, rfl, rfl⟩ := e
    exact ⟨a, b, c, s, r, rfl, w1, w2⟩
end
end Go.Proofs.Ytblneiegekdnjaa
