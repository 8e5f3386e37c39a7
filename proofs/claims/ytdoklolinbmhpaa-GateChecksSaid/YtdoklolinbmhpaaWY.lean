/- Gate, part WY: arguments opened: a set of gates and its rules. -/
import Derived.Test.YtdoklolinbmhpaaWS
import Derived.Test.YtdoklolinbmhpaaWB
set_option linter.all false
namespace Go.Proofs.Ytdoklolinbmhpaa
open Go.ChangeShapes Go.WideShapes Go.ChangeAt Go.RowKit Go.Deep

theorem Try.cellsRu : Try.prog.cellsOf 84 = 4 := by kernel_rfl
theorem Try.bytesGt : Try.prog.bytesOf 33 = 208 := by kernel_rfl
theorem Try.bytesRu : Try.prog.bytesOf 84 = 32 := by kernel_rfl
theorem Try.cellsGts : Try.prog.cellsOf 22 = 1 := by kernel_rfl
theorem Try.cellsRus : Try.prog.cellsOf 23 = 1 := by kernel_rfl
section
variable {H : Type} {enc : TypeId × Value → H} {W : World}
set_option maxRecDepth 100000 in
theorem ru_of_trod {n : Nat} {cs : List Value} {y : DataW H × List MemPlace} (hl : cs.length = 4) (h : DataW.trod enc Try.prog W 0 (fun _ => true) true n 84 cs = some y) :
    ∃ s : Ru, cs = ruL s ∧ (I64 s.gate ∧ I64 s.other ∧ I64 s.lo ∧ I64 s.hi) := by
  obtain ⟨xs, m, _, rfl, _, hxl, hf⟩ := DataW.trod_struct Try.underlying84 h
  match cs, hl, xs, hxl with
  | [c0, c1, c2, c3], _, [y0, y1, y2, y3], _ =>
    have h0 := hf 0 _ rfl
    have h1 := hf 1 _ rfl
    have h2 := hf 2 _ rfl
    have h3 := hf 3 _ rfl
    simp [Try.cellsInt] at h0 h1 h2 h3
    obtain ⟨x0, rfl, w0⟩ := int_of_trod h0
    obtain ⟨x1, rfl, w1⟩ := int_of_trod h1
    obtain ⟨x2, rfl, w2⟩ := int_of_trod h2
    obtain ⟨x3, rfl, w3⟩ := int_of_trod h3
    exact ⟨⟨x0, x1, x2, x3⟩, rfl, w0, w1, w2, w3⟩
instance : Inhabited GtP := ⟨⟨none, 0, none, 0⟩⟩
set_option maxRecDepth 100000 in
/-- A set. -/
theorem set_of_trod {n : Nat} {cs : List Value} {y : DataW H × List MemPlace} (h : DataW.trod enc Try.prog W 0 (fun _ => true) true n 25 cs = some y)
    (hw : ∀ q ∈ DataW.weights Try.prog 25 y.1, q ≤ reachBytes) (hlt : ∀ q ∈ y.2, q.block < W.heap.size) :
    ∃ (z : SetV), cs = [.slice z.ga z.gs.length z.gc, .slice z.ra z.rs.length z.rc] ∧ SetOk W z := by
  obtain ⟨xs, m, _, rfl, hl, hxl, hf⟩ := DataW.trod_struct Try.underlying25 h
  rw [show Try.prog.cellsOf 25 = 2 by kernel_rfl] at hl
  match cs, hl, xs, hxl with
  | [c0, c1], _, [y0, y1], _ =>
    have h0 := hf 0 _ rfl
    have h1 := hf 1 _ rfl
    clear hf
    simp [Try.cellsGts, Try.cellsRus] at h0 h1
    simp only [DataW.weights, Try.underlying25, List.map, List.toList_toArray, DataW.weightsEach, List.mem_append] at hw
    simp only [List.flatMap_cons, List.flatMap_nil, List.append_nil, List.mem_append] at hlt
    obtain ⟨a, l, cap, e, u1, u2, u3, u4⟩ := rows_of_trod (fun (x : Gt × GtP) => gtL x.1 x.2) (fun x => GtOk W x.2 x.1) 21 208 Try.underlying22 Try.cellsGt Try.bytesGt (by decide) (by omega)
      (fun n cs y hl h hw hlt => by
        obtain ⟨g, p, e, ok⟩ := gt_of_trod h hw hlt
        exact ⟨(g, p), e, ok⟩) h0 (fun q hq => hw q (by simp [hq])) (fun q hq => hlt q (by simp [hq]))
    obtain ⟨b, r, rcap, e2, v1, v2, v3, v4⟩ := rows_of_trod ruL (fun r => I64 r.gate ∧ I64 r.other ∧ I64 r.lo ∧ I64 r.hi) 4 32 Try.underlying23 Try.cellsRu Try.bytesRu (by omega) (by omega)
      (fun n cs y hl h _ _ => ru_of_trod hl h) h1 (fun q hq => hw q (by simp [hq])) (fun q hq => hlt q (by simp [hq]))
    simp only [List.cons.injEq, and_true] at e e2
    subst e e2
    have hlen : (l.map Prod.fst).length = l.length := by simp
    have hps : ∀ i (h : i < l.length), (l.getD i default).2 = l[i].2 := fun i h => by simp [List.getD, h]
    refine ⟨⟨a, l.map Prod.fst, cap, fun i => (l.getD i default).2, b, r, rcap⟩, by simp, ⟨?_, fun i hi => ?_⟩, ⟨by simpa using u1, by simpa using Nat.le_trans u1 (cap_small u2 (by decide))⟩, v4, ⟨v1, Nat.le_trans v1 (cap_small v2 (by omega))⟩, v3⟩
    · rcases u4 with u4 | ⟨b, o, ha, hb, hc⟩
      · exact .inl (by simp [u4])
      · refine .inr ⟨b, o, ha, hb, fun i hi => ?_⟩
        have hi' : i < l.length := by simpa using hi
        have := hc i hi'
        dsimp only
        rw [hps i hi']
        simpa using this
    · have hi' : i < l.length := by simpa using hi
      dsimp only
      rw [hps i hi']
      simpa using u3 _ (List.getElem_mem hi')
end
end Go.Proofs.Ytdoklolinbmhpaa
