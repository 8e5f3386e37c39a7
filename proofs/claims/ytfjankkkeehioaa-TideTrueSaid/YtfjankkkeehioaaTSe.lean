/- Tide, part Se: arguments opened: truths, and arrays of small integers. -/
import Derived.Test.YtfjankkkeehioaaTSc
set_option linter.all false
namespace Go.Proofs.Ytfjankkkeehioaa
open Go.ChangeShapes Go.WideShapes Go.ChangeAt Go.RowKit Go.Deep

/-- How readings came about, and where the lists lie. -/
structure Tru where
  from_ : Int
  level : Int
  mv : List Int
  gp : List Int
  sh : List Int
  er : List Int
structure TPos where
  ma : Option Addr
  mc : Nat
  ga : Option Addr
  gc : Nat
  sa : Option Addr
  sc : Nat
  ea : Option Addr
  ec : Nat
structure TruOk (w : World) (p : TPos) (x : Tru) : Prop where
  from_ : I64 x.from_
  level : I64 x.level
  mlen : x.mv.length ≤ 140737488355328
  mbd : ∀ s ∈ x.mv, -128 ≤ s ∧ s ≤ 127
  mat : KindsAt w .i8 p.ma x.mv
  glen : x.gp.length ≤ 140737488355328
  gbd : ∀ s ∈ x.gp, 0 ≤ s ∧ s ≤ 255
  gat : KindsAt w .u8 p.ga x.gp
  slen : x.sh.length ≤ 140737488355328
  sbd : ∀ s ∈ x.sh, 0 ≤ s ∧ s ≤ 255
  sat : KindsAt w .u8 p.sa x.sh
  elen : x.er.length ≤ 140737488355328
  ebd : ∀ s ∈ x.er, -128 ≤ s ∧ s ≤ 127
  eat : KindsAt w .i8 p.ea x.er
theorem TruOk.later {w w' : World} {p : TPos} {x : Tru} {B : Nat} (h : TruOk w p x) (hb : Below B w w') (hB : w.heap.size ≤ B) : TruOk w' p x :=
  { h with mat := h.mat.later hb hB, gat := h.gat.later hb hB, sat := h.sat.later hb hB, eat := h.eat.later hb hB }

theorem Try.cellsTruth : Try.prog.cellsOf 78 = 6 := by kernel_rfl
section
variable {H : Type} {enc : TypeId × Value → H} {W : World}
set_option maxRecDepth 100000 in
/-- A truth, as it is read before the call. -/
theorem tru_of_trod {n : Nat} {cs : List Value} {y : DataW H × List MemPlace} (h : DataW.trod enc Try.prog W 0 (fun _ => true) true n 78 cs = some y)
    (hw : ∀ q ∈ DataW.weights Try.prog 78 y.1, q ≤ reachBytes) (hlt : ∀ q ∈ y.2, q.block < W.heap.size) :
    ∃ (x : Tru) (p : TPos), cs = [.int .i64 x.from_, .int .i64 x.level, .slice p.ma x.mv.length p.mc, .slice p.ga x.gp.length p.gc, .slice p.sa x.sh.length p.sc, .slice p.ea x.er.length p.ec] ∧ TruOk W p x := by
  obtain ⟨xs, m, _, rfl, hl, hxl, hf⟩ := DataW.trod_struct Try.underlying78 h
  rw [Try.cellsTruth] at hl
  match cs, hl, xs, hxl with
  | [c0, c1, c2, c3, c4, c5], _, [y0, y1, y2, y3, y4, y5], _ =>
    have h0 := hf 0 _ rfl
    have h1 := hf 1 _ rfl
    have h2 := hf 2 _ rfl
    have h3 := hf 3 _ rfl
    have h4 := hf 4 _ rfl
    have h5 := hf 5 _ rfl
    have k2 : Try.prog.cellsOf 66 = 1 := by kernel_rfl
    have k3 : Try.prog.cellsOf 75 = 1 := by kernel_rfl
    simp [Try.cellsInt, k2, k3] at h0 h1 h2 h3 h4 h5
    obtain ⟨x0, rfl, w0⟩ := int_of_trod h0
    obtain ⟨x1, rfl, w1⟩ := int_of_trod h1
    simp only [DataW.weights, Try.underlying78, List.map, List.toList_toArray, DataW.weightsEach, List.mem_append] at hw
    simp only [List.flatMap_cons, List.flatMap_nil, List.append_nil, List.mem_append] at hlt
    obtain ⟨a2, l2, p2, e2, u2, v2, r2⟩ := i8row_of_trod h2 (fun q hq => hw q (by simp [hq])) (fun q hq => hlt q (by simp [hq]))
    obtain ⟨a3, l3, p3, e3, u3, v3, r3⟩ := u8row_of_trod h3 (fun q hq => hw q (by simp [hq])) (fun q hq => hlt q (by simp [hq]))
    obtain ⟨a4, l4, p4, e4, u4, v4, r4⟩ := u8row_of_trod h4 (fun q hq => hw q (by simp [hq])) (fun q hq => hlt q (by simp [hq]))
    obtain ⟨a5, l5, p5, e5, u5, v5, r5⟩ := i8row_of_trod h5 (fun q hq => hw q (by simp [hq])) (fun q hq => hlt q (by simp [hq]))
    simp only [List.cons.injEq, and_true] at e2 e3 e4 e5
    subst e2 e3 e4 e5
    exact ⟨⟨x0, x1, l2, l3, l4, l5⟩, ⟨a2, p2, a3, p3, a4, p4, a5, p5⟩, rfl, w0, w1, u2, v2, r2, u3, v3, r3, u4, v4, r4, u5, v5, r5⟩
theorem u8_of_trod {n : Nat} {c : Value} {y : DataW H × List MemPlace} (h : DataW.trod enc Try.prog W 0 (fun _ => true) true n 5 [c] = some y) : ∃ x : Int, c = .int .u8 x ∧ (0 ≤ x ∧ x ≤ 255) := by
  obtain ⟨x0, hx, _, w0⟩ := DataW.trod_int Try.underlying5 h
  refine ⟨x0, by simpa using hx, ?_⟩
  simp [Lit.wf, IntKind.min, IntKind.max, IntKind.signed, IntKind.bits] at w0
  omega
/-- An array of small numbers, as it is read before the call. -/
theorem u8s_of_trod {t : TypeId} {k n : Nat} (ht : Try.prog.underlying t = some (.array k 5)) (hc : Try.prog.cellsOf t = k) {cs : List Value} {y : DataW H × List MemPlace} (h : DataW.trod enc Try.prog W 0 (fun _ => true) true n t cs = some y) :
    cs.length = k ∧ ∀ i, i < k → ∃ x : Int, cs[i]? = some (.int .u8 x) ∧ (0 ≤ x ∧ x ≤ 255) := by
  obtain ⟨xs, m, _, rfl, hl, hxl, hf⟩ := DataW.trod_array ht h
  rw [hc] at hl
  refine ⟨hl, fun i hi => ?_⟩
  have h1 := hf i hi
  rw [Try.cellsU8, Nat.mul_one, List.getElem?_eq_getElem (by omega)] at h1
  have h2 : (cs.drop i).take 1 = [cs[i]'(by omega)] := by
    rw [List.drop_eq_getElem_cons (by omega)]; rfl
  rw [h2] at h1
  obtain ⟨x, hx, w⟩ := u8_of_trod h1
  exact ⟨x, by rw [List.getElem?_eq_getElem (by omega), hx], w⟩
end
end Go.Proofs.Ytfjankkkeehioaa
