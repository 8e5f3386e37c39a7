/- Tide, part SR: arguments opened: gauges in a row; what is asked of them. -/
import Derived.Test.YtblneiegekdnjaaGreatSC
import Derived.Test.YtblneiegekdnjaaGreatTSb
set_option linter.all false
namespace Go.Proofs.YtblneiegekdnjaaGreat
open Go.ChangeShapes Go.WideShapes Go.ChangeAt Go.RowKit Go.Deep

theorem Tryz.bytesGau : Tryz.prog.bytesOf 55 = 80 := by kernel_rfl
theorem Tryz.cellsAt : Tryz.prog.cellsOf 36 = 3 := by kernel_rfl
instance : Inhabited GPos := ⟨⟨none, 0, none, 0⟩⟩
section
variable {H : Type} {enc : TypeId × Value → H} {W : World}
theorem gaurow_of_trod {fuel : Nat} {cs : List Value} {x : DataW H × List MemPlace} (h : DataW.trod enc Tryz.prog W 0 (fun _ => true) true fuel 34 cs = some x)
    (hw : ∀ n ∈ DataW.weights Tryz.prog 34 x.1, n ≤ reachBytes) (hlt : ∀ q ∈ x.2, q.block < W.heap.size) :
    ∃ (a : Option Addr) (gs : List Gau) (cap : Nat), cs = [.slice a gs.length cap] ∧ (gs.length ≤ cap ∧ gs.length ≤ 140737488355328) ∧ GausAt W a gs := by
  obtain ⟨a, l, cap, e, h1, h2, h3, h4⟩ := rows_of_trod (α := Gau × GPos) (fun w b o x => GauAt w b o x.1 x.2 ∧ GauOk w x.2 x.1) (fun _ => True) 5 80 Tryz.underlying34 Tryz.cellsGau Tryz.bytesGau (by omega) (by omega)
    (fun b o n cs y hc hl h hw hlt => by
      obtain ⟨g, p, rfl, hok⟩ := gau_of_trod h hw hlt
      exact ⟨(g, p), ⟨⟨by simpa using hc 0 (by omega), by simpa using hc 1 (by omega), by simpa using hc 2 (by omega), by simpa using hc 3 (by omega), by simpa using hc 4 (by omega)⟩, hok⟩, trivial⟩) h hw hlt
  refine ⟨a, l.map Prod.fst, cap, by simpa using e, ⟨by simpa using h1, by rw [List.length_map]; omega⟩, ?_⟩
  rcases h4 with h4 | ⟨b, o, ha, hb, hc⟩
  · left; rw [h4]; rfl
  · refine .inr ⟨b, o, fun i => (l.getD i default).2, ha, hb, fun i hi => ?_⟩
    have hi' : i < l.length := by simpa using hi
    have := hc i hi'
    simp only [List.getElem_map, show l.getD i default = l[i] by simp [List.getD, hi']]
    exact this
set_option maxRecDepth 100000 in
theorem at_of_trod {n : Nat} {cs : List Value} {y : DataW H × List MemPlace} (h : DataW.trod enc Tryz.prog W 0 (fun _ => true) true n 36 cs = some y)
    (hw : ∀ q ∈ DataW.weights Tryz.prog 36 y.1, q ≤ reachBytes) (hlt : ∀ q ∈ y.2, q.block < W.heap.size) :
    ∃ (a b c : Int), cs = [.int .i64 a, .int .i64 b, .int .i64 c] ∧ I64 a ∧ I64 b ∧ I64 c := by
  obtain ⟨xs, m, _, rfl, hl, hxl, hf⟩ := DataW.trod_struct Tryz.underlying36 h
  rw [Tryz.cellsAt] at hl
  match cs, hl, xs, hxl with
  | [c0, c1, c2], _, [y0, y1, y2], _ =>
    have h0 := hf 0 _ rfl
    have h1 := hf 1 _ rfl
    have h2 := hf 2 _ rfl
    simp [Tryz.cellsInt] at h0 h1 h2
    obtain ⟨x0, rfl, w0⟩ := int_of_trod h0
    obtain ⟨x1, rfl, w1⟩ := int_of_trod h1
    obtain ⟨x2, rfl, w2⟩ := int_of_trod h2
    exact ⟨x0, x1, x2, rfl, w0, w1, w2⟩
end
end Go.Proofs.YtblneiegekdnjaaGreat
