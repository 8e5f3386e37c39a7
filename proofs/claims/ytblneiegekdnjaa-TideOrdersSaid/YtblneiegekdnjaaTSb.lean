/- Tide, part Sb: arguments opened: tables, as they are read before the call. -/
import Derived.Test.YtblneiegekdnjaaTS
set_option linter.all false
namespace Go.Proofs.Ytblneiegekdnjaa
open Go.ChangeShapes Go.WideShapes Go.ChangeAt Go.RowKit Go.Deep

theorem Try.cellsCon : Try.prog.cellsOf 68 = 6 := by kernel_rfl
theorem Try.bytesCon : Try.prog.bytesOf 68 = 72 := by kernel_rfl
theorem Try.cellsTab : Try.prog.cellsOf 24 = 2 := by kernel_rfl

section
variable {H : Type} {enc : TypeId × Value → H} {W : World}

/-- Ints, as they are read before the call. -/
theorem introw_of_trod {fuel : Nat} {cs : List Value} {x : DataW H × List MemPlace} (h : DataW.trod enc Try.prog W 0 (fun _ => true) true fuel 52 cs = some x)
    (hw : ∀ n ∈ DataW.weights Try.prog 52 x.1, n ≤ reachBytes) (hlt : ∀ q ∈ x.2, q.block < W.heap.size) :
    ∃ (a : Option Addr) (l : List Int) (cap : Nat), cs = [.slice a l.length cap] ∧ l.length ≤ cap ∧ cap ≤ 140737488355328 ∧ (∀ x ∈ l, I64 x) ∧ IntsAt W a l := by
  obtain ⟨a, l, cap, e, h1, h2, h3, h4⟩ := rows_of_trod (fun w b o (x : Int) => w.cell? ⟨b, o, none⟩ = some (.int .i64 x)) I64 1 8 Try.underlying52 Try.cellsInt Try.bytesInt (by omega) (by omega)
    (fun b o n cs y hc hl h _ _ => by
      match cs, hl with
      | [c0], _ =>
        obtain ⟨x0, rfl, w0⟩ := int_of_trod h
        exact ⟨x0, by simpa using hc 0 (by omega), w0⟩) h hw hlt
  refine ⟨a, l, cap, e, h1, h2, h3, ?_⟩
  rcases h4 with h4 | ⟨b, o, ha, hb, hc⟩
  · exact .inl h4
  · exact .inr ⟨b, o, ha, hb, fun i hi => by simpa using hc i hi⟩

set_option maxRecDepth 100000 in
theorem con_of_trod (b o n : Nat) (cs : List Value) (y : DataW H × List MemPlace) (hcell : ∀ i, i < 6 → W.cell? ⟨b, o + i, none⟩ = cs[i]?) (hl : cs.length = 6)
    (h : DataW.trod enc Try.prog W 0 (fun _ => true) true n 68 cs = some y) (hw : ∀ q ∈ DataW.weights Try.prog 68 y.1, q ≤ reachBytes) (hlt : ∀ q ∈ y.2, q.block < W.heap.size) :
    ∃ c : Con, (∃ ha hc, ConAt W b o c ha hc) ∧ ConWf c := by
  obtain ⟨xs, m, _, rfl, _, hxl, hf⟩ := DataW.trod_struct Try.underlying68 h
  match cs, hl, xs, hxl with
  | [c0, c1, c2, c3, c4, c5], _, [y0, y1, y2, y3, y4, y5], _ =>
    have h0 := hf 0 _ rfl
    have h1 := hf 1 _ rfl
    have h2 := hf 2 _ rfl
    have h3 := hf 3 _ rfl
    have h4 := hf 4 _ rfl
    have h5 := hf 5 _ rfl
    have k1 : Try.prog.cellsOf 52 = 1 := by kernel_rfl
    have k0 : Try.prog.cellsOf 9 = 1 := by kernel_rfl
    simp [Try.cellsInt, k0, k1] at h0 h1 h2 h3 h4 h5
    obtain ⟨s, hs, _, hsz⟩ := DataW.trod_string Try.underlying9 h0
    simp only [List.cons.injEq, and_true] at hs
    subst hs
    obtain ⟨x2, rfl, w2⟩ := int_of_trod h2
    obtain ⟨x3, rfl, w3⟩ := int_of_trod h3
    obtain ⟨x4, rfl, w4⟩ := int_of_trod h4
    obtain ⟨x5, rfl, w5⟩ := int_of_trod h5
    simp only [DataW.weights, Try.underlying68, List.map, DataW.weightsEach, List.mem_append] at hw
    simp only [List.flatMap_cons, List.flatMap_nil, List.append_nil, List.mem_append] at hlt
    obtain ⟨a, l, p, e, u, v, t, r⟩ := introw_of_trod h1 (fun q hq => hw q (by simp [hq])) (fun q hq => hlt q (by simp [hq]))
    simp only [List.cons.injEq, and_true] at e
    subst e
    exact ⟨⟨s, l, x2, x3, x4, x5⟩, ⟨a, p, by simpa using hcell 0 (by omega), by simpa using hcell 1 (by omega), by simpa using hcell 2 (by omega), by simpa using hcell 3 (by omega), by simpa using hcell 4 (by omega), by simpa using hcell 5 (by omega), r⟩,
      ⟨hsz, Nat.le_trans u v, t, w2, w3, w4, w5⟩⟩

set_option maxRecDepth 100000 in
/-- A table's two cells, as they are read before the call. -/
theorem tab_of_trod {n : Nat} {cs : List Value} {y : DataW H × List MemPlace} (h : DataW.trod enc Try.prog W 0 (fun _ => true) true n 24 cs = some y)
    (hw : ∀ q ∈ DataW.weights Try.prog 24 y.1, q ≤ reachBytes) (hlt : ∀ q ∈ y.2, q.block < W.heap.size) :
    ∃ (mean : Int) (a : Option Addr) (l : List Con) (cap : Nat), cs = [.int .i64 mean, .slice a l.length cap] ∧ I64 mean ∧ ConsOk W a cap l := by
  obtain ⟨xs, m, _, rfl, hl, hxl, hf⟩ := DataW.trod_struct Try.underlying24 h
  rw [Try.cellsTab] at hl
  match cs, hl, xs, hxl with
  | [c0, c1], _, [y0, y1], _ =>
    have h0 := hf 0 _ rfl
    have h1 := hf 1 _ rfl
    have k1 : Try.prog.cellsOf 22 = 1 := by kernel_rfl
    simp [Try.cellsInt, k1] at h0 h1
    obtain ⟨x0, rfl, w0⟩ := int_of_trod h0
    simp only [DataW.weights, Try.underlying24, List.map, DataW.weightsEach, List.mem_append] at hw
    simp only [List.flatMap_cons, List.flatMap_nil, List.append_nil, List.mem_append] at hlt
    obtain ⟨a, l, p, e, u, v, t, r⟩ := rows_of_trod (fun w b o c => ∃ ha hc, ConAt w b o c ha hc) ConWf 6 72 Try.underlying22 Try.cellsCon Try.bytesCon (by omega) (by omega)
      (fun b o n cs y hc hl h hw hlt => con_of_trod b o n cs y hc hl h hw hlt) h1 (fun q hq => hw q (by simp [hq])) (fun q hq => hlt q (by simp [hq]))
    simp only [List.cons.injEq, and_true] at e
    subst e
    exact ⟨x0, a, l, p, rfl, w0, u, Nat.le_trans u v, t, r⟩
end
end Go.Proofs.Ytblneiegekdnjaa
