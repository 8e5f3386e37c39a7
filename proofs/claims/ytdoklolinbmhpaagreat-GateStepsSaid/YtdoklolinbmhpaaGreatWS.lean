/- Gate, part WS: arguments opened: gates, states, steps and sets, as they are read before the call. -/
import Derived.Test.YtdoklolinbmhpaaGreatWM
import Derived.ProofKit
import Derived.OpenShut
import Derived.SizedLaws
import Derived.Deep.Slices
set_option linter.all false
namespace Go.Proofs.YtdoklolinbmhpaaGreat
open Go.ChangeShapes Go.WideShapes Go.ChangeAt Go.RowKit Go.Deep

theorem Tryz.own : ownKnob Tryz.prog.godebug = none := by kernel_rfl
theorem Tryz.laidOut : laidOutB Tryz.prog = true := by kernel_rfl
theorem Tryz.cellsInt : Tryz.prog.cellsOf 3 = 1 := by kernel_rfl
theorem Tryz.cellsBool : Tryz.prog.cellsOf 4 = 1 := by kernel_rfl
theorem Tryz.cellsStr : Tryz.prog.cellsOf 9 = 1 := by kernel_rfl
theorem Tryz.cellsInts : Tryz.prog.cellsOf 22 = 1 := by kernel_rfl
theorem Tryz.cellsSens : Tryz.prog.cellsOf 23 = 1 := by kernel_rfl
theorem Tryz.cellsSen : Tryz.prog.cellsOf 121 = 3 := by kernel_rfl
theorem Tryz.cellsGt : Tryz.prog.cellsOf 25 = 21 := by kernel_rfl
theorem Tryz.cellsSt : Tryz.prog.cellsOf 27 = 3 := by kernel_rfl
theorem Tryz.cellsSp : Tryz.prog.cellsOf 35 = 4 := by kernel_rfl
theorem Tryz.bytesInt : Tryz.prog.bytesOf 3 = 8 := by kernel_rfl
theorem Tryz.bytesSen : Tryz.prog.bytesOf 121 = 24 := by kernel_rfl

theorem i64_of_wf {x : Int} (h : (Lit.int .i64 x).wf = true) : I64 x := by
  simp [Lit.wf, IntKind.min, IntKind.max, IntKind.signed, IntKind.bits] at h
  exact ⟨by omega, by omega⟩
theorem wf_of_i64 {x : Int} (h : I64 x) : (Lit.int .i64 x).wf = true := by
  obtain ⟨h1, h2⟩ := h
  simp [Lit.wf, IntKind.min, IntKind.max, IntKind.signed, IntKind.bits]
  omega
theorem add_at (b o n : Nat) : (⟨b, o, none⟩ : Addr).add n = ⟨b, o + n, none⟩ := by
  unfold Addr.add; split
  · rename_i h; subst h; rfl
  · rfl
theorem weightsAll_mem {H : Type} {P : Program} {e : TypeId} {q : Nat} : ∀ {l : List (DataW H)} {d : DataW H}, d ∈ l → q ∈ d.weights P e → q ∈ DataW.weightsAll P e l
  | a :: l, d, hd, hq => by
    simp only [DataW.weightsAll, List.mem_append]
    rcases List.mem_cons.1 hd with rfl | hd
    · exact .inl hq
    · exact .inr (weightsAll_mem hd hq)

section
variable {H : Type} {enc : TypeId × Value → H} {W : World}

/-- A slice of rows, as it is read before the call. -/
theorem rows_of_trod {α : Type} [Inhabited α] (L : α → List Value) (Wf : α → Prop) (size bytes : Nat) {t e : TypeId} (ht : Tryz.prog.underlying t = some (.slice e)) (hc : Tryz.prog.cellsOf e = size) (hb : Tryz.prog.bytesOf e = bytes) (hbp : 0 < bytes) (hsp : 0 < size)
    (mk : ∀ n cs y, cs.length = size → DataW.trod enc Tryz.prog W 0 (fun _ => true) true n e cs = some y → (∀ q ∈ DataW.weights Tryz.prog e y.1, q ≤ reachBytes) → (∀ q ∈ y.2, q.block < W.heap.size) → ∃ x : α, cs = L x ∧ Wf x)
    {fuel : Nat} {cs : List Value} {x : DataW H × List MemPlace} (h : DataW.trod enc Tryz.prog W 0 (fun _ => true) true fuel t cs = some x)
    (hw : ∀ n ∈ DataW.weights Tryz.prog t x.1, n ≤ reachBytes) (hlt : ∀ q ∈ x.2, q.block < W.heap.size) :
    ∃ (a : Option Addr) (l : List α) (cap : Nat), cs = [.slice a l.length cap] ∧ l.length ≤ cap ∧ cap * bytes ≤ reachBytes ∧ (∀ x ∈ l, Wf x) ∧ RowsL (fun _ x => L x) size W a l := by
  rcases open_slice ht h with ⟨rfl, rfl⟩ | ⟨a, len, cap, m, n, D, Pl, rfl, _, hl, hm, hmm, rfl, hx⟩
  · exact ⟨none, [], 0, rfl, Nat.le_refl _, by omega, by simp, .inl rfl⟩
  · simp only [if_true] at hmm
    subst hmm
    rw [hc] at hx
    have hcap : m * bytes ≤ reachBytes := by
      have := hw ((len + (m - len)) * Tryz.prog.bytesOf e) (by simp [DataW.weights, ht])
      rw [hb, show len + (m - len) = m by omega] at this
      exact this
    by_cases h0 : len = 0
    · subst h0
      exact ⟨some a, [], m, rfl, Nat.zero_le _, hcap, by simp, .inl rfl⟩
    · obtain ⟨b, o, spot⟩ := a
      have hspot : spot = none := by
        obtain ⟨cs', h1, _⟩ := hx 0 (by omega)
        obtain ⟨_, hlen, hcell⟩ := World.cells?_some h1
        have := hcell 0 hsp
        simp only [Nat.zero_mul, Addr.add, if_true] at this
        rw [List.getElem?_eq_getElem (by omega)] at this
        exact World.cell?_spot this
      subst hspot
      have hblk : b < W.heap.size := by
        refine hlt (.cell b o) (List.mem_append_left _ (MemPlace.mem_row.2 ⟨0, ?_, by simp⟩))
        rw [hc]; exact Nat.mul_pos (by omega) hsp
      obtain ⟨f, hf⟩ := choose_lt (α := α) (n := len) (p := fun i x => W.rangeAt b (o + i * size) (L x) ∧ Wf x) (fun i hi => by
        obtain ⟨cs', h1, h2⟩ := hx i (by omega)
        obtain ⟨_, hlen, hcell⟩ := World.cells?_some h1
        obtain ⟨x, hLx, hWf⟩ := mk n cs' _ hlen h2 (fun q hq => by
          refine hw q ?_
          simp only [DataW.weights, ht, List.mem_cons, List.mem_append]
          refine .inr (.inl ?_)
          exact weightsAll_mem (List.mem_map.2 ⟨i, List.mem_range.2 hi, rfl⟩) hq) (fun q hq => by
          refine hlt q (List.mem_append_right _ (List.mem_flatMap.2 ⟨i, List.mem_range.2 (by omega), hq⟩)))
        refine ⟨x, fun j v hv => ?_, hWf⟩
        rw [← hLx] at hv
        have hj : j < cs'.length := (List.getElem?_eq_some_iff.1 hv).1
        have := hcell j (by omega)
        rw [add_at, add_at] at this
        rw [this]; exact hv)
      refine ⟨some ⟨b, o, none⟩, (List.range len).map f, m, by simp, by simp; omega, hcap, ?_, .inr ⟨b, o, rfl, hblk, fun i hi => ?_⟩⟩
      · intro x hx'
        obtain ⟨i, hi, rfl⟩ := List.mem_map.1 hx'
        exact (hf i (List.mem_range.1 hi)).2
      · simp only [List.length_map, List.length_range] at hi
        simpa using (hf i hi).1
theorem cap_small {m bytes : Nat} (h : m * bytes ≤ reachBytes) (hb : 0 < bytes) : m ≤ 140737488355328 := by
  have h1 : m * 1 ≤ m * bytes := Nat.mul_le_mul_left _ hb
  have h2 := reachBytes_lt
  omega

theorem int_of_trod {n : Nat} {c : Value} {y : DataW H × List MemPlace} (h : DataW.trod enc Tryz.prog W 0 (fun _ => true) true n 3 [c] = some y) : ∃ x : Int, c = .int .i64 x ∧ I64 x := by
  obtain ⟨x, hc, _, hw⟩ := DataW.trod_int Tryz.underlying3 h
  exact ⟨x, by simpa using hc, i64_of_wf hw⟩
theorem bool_of_trod {n : Nat} {c : Value} {y : DataW H × List MemPlace} (h : DataW.trod enc Tryz.prog W 0 (fun _ => true) true n 4 [c] = some y) : ∃ x : Bool, c = .bool x := by
  obtain ⟨x, hc, _⟩ := DataW.trod_bool Tryz.underlying4 h
  exact ⟨x, by simpa using hc⟩
set_option maxRecDepth 100000 in
theorem sen_of_trod (n : Nat) (cs : List Value) (y : DataW H × List MemPlace) (hl : cs.length = 3)
    (h : DataW.trod enc Tryz.prog W 0 (fun _ => true) true n 121 cs = some y) : ∃ d : Sen, cs = senL d ∧ (I64 d.kind ∧ I64 d.at_ ∧ I64 d.tol) := by
  obtain ⟨xs, m, _, rfl, _, hxl, hf⟩ := DataW.trod_struct Tryz.underlying121 h
  match cs, hl, xs, hxl with
  | [c0, c1, c2], _, [y0, y1, y2], _ =>
    have h0 := hf 0 _ rfl
    have h1 := hf 1 _ rfl
    have h2 := hf 2 _ rfl
    simp [Tryz.cellsInt] at h0 h1 h2
    obtain ⟨x0, rfl, w0⟩ := int_of_trod h0
    obtain ⟨x1, rfl, w1⟩ := int_of_trod h1
    obtain ⟨x2, rfl, w2⟩ := int_of_trod h2
    exact ⟨⟨x0, x1, x2⟩, rfl, w0, w1, w2⟩
theorem introw_of_trod {fuel : Nat} {cs : List Value} {x : DataW H × List MemPlace} (h : DataW.trod enc Tryz.prog W 0 (fun _ => true) true fuel 22 cs = some x)
    (hw : ∀ n ∈ DataW.weights Tryz.prog 22 x.1, n ≤ reachBytes) (hlt : ∀ q ∈ x.2, q.block < W.heap.size) :
    ∃ (a : Option Addr) (l : List Int) (cap : Nat), cs = [.slice a l.length cap] ∧ (l.length ≤ cap ∧ l.length ≤ 140737488355328 ∧ ∀ x ∈ l, I64 x) ∧ IntsAt W a l := by
  obtain ⟨a, l, cap, e, h1, h2, h3, h4⟩ := rows_of_trod (fun (x : Int) => [.int .i64 x]) I64 1 8 Tryz.underlying22 Tryz.cellsInt Tryz.bytesInt (by omega) (by omega)
    (fun n cs y hl h _ _ => by
      match cs, hl with
      | [c0], _ =>
        obtain ⟨x0, rfl, w0⟩ := int_of_trod h
        exact ⟨x0, rfl, w0⟩) h hw hlt
  refine ⟨a, l, cap, e, ⟨h1, Nat.le_trans h1 (cap_small h2 (by omega)), h3⟩, ?_⟩
  rcases h4 with h4 | ⟨b, o, ha, hb, hc⟩
  · exact .inl h4
  · exact .inr ⟨b, o, ha, hb, fun i hi => by simpa using hc i hi 0 _ rfl⟩

set_option maxRecDepth 100000 in
set_option maxHeartbeats 1000000 in
/-- A gate's cells, as they are read before the call. -/
theorem gt_of_trod {n : Nat} {cs : List Value} {y : DataW H × List MemPlace} (h : DataW.trod enc Tryz.prog W 0 (fun _ => true) true n 25 cs = some y)
    (hw : ∀ q ∈ DataW.weights Tryz.prog 25 y.1, q ≤ reachBytes) (hlt : ∀ q ∈ y.2, q.block < W.heap.size) :
    ∃ (g : Gt) (p : GtP), cs = gtL g p ∧ GtOk W p g := by
  obtain ⟨xs, m, _, rfl, hl, hxl, hf⟩ := DataW.trod_struct Tryz.underlying25 h
  rw [Tryz.cellsGt] at hl
  match cs, hl, xs, hxl with
  | [c0, c1, c2, c3, c4, c5, c6, c7, c8, c9, c10, c11, c12, c13, c14, c15, c16, c17, c18, c19, c20], _, [y0, y1, y2, y3, y4, y5, y6, y7, y8, y9, y10, y11, y12, y13, y14, y15, y16, y17, y18, y19, y20], _ =>
    have h0 := hf 0 _ rfl
    have h1 := hf 1 _ rfl
    have h2 := hf 2 _ rfl
    have h3 := hf 3 _ rfl
    have h4 := hf 4 _ rfl
    have h5 := hf 5 _ rfl
    have h6 := hf 6 _ rfl
    have h7 := hf 7 _ rfl
    have h8 := hf 8 _ rfl
    have h9 := hf 9 _ rfl
    have h10 := hf 10 _ rfl
    have h11 := hf 11 _ rfl
    have h12 := hf 12 _ rfl
    have h13 := hf 13 _ rfl
    have h14 := hf 14 _ rfl
    have h15 := hf 15 _ rfl
    have h16 := hf 16 _ rfl
    have h17 := hf 17 _ rfl
    have h18 := hf 18 _ rfl
    have h19 := hf 19 _ rfl
    have h20 := hf 20 _ rfl
    clear hf
    simp [Tryz.cellsInt, Tryz.cellsStr, Tryz.cellsInts, Tryz.cellsSens] at h0
    simp [Tryz.cellsInt, Tryz.cellsStr, Tryz.cellsInts, Tryz.cellsSens] at h1
    simp [Tryz.cellsInt, Tryz.cellsStr, Tryz.cellsInts, Tryz.cellsSens] at h2
    simp [Tryz.cellsInt, Tryz.cellsStr, Tryz.cellsInts, Tryz.cellsSens] at h3
    simp [Tryz.cellsInt, Tryz.cellsStr, Tryz.cellsInts, Tryz.cellsSens] at h4
    simp [Tryz.cellsInt, Tryz.cellsStr, Tryz.cellsInts, Tryz.cellsSens] at h5
    simp [Tryz.cellsInt, Tryz.cellsStr, Tryz.cellsInts, Tryz.cellsSens] at h6
    simp [Tryz.cellsInt, Tryz.cellsStr, Tryz.cellsInts, Tryz.cellsSens] at h7
    simp [Tryz.cellsInt, Tryz.cellsStr, Tryz.cellsInts, Tryz.cellsSens] at h8
    simp [Tryz.cellsInt, Tryz.cellsStr, Tryz.cellsInts, Tryz.cellsSens] at h9
    simp [Tryz.cellsInt, Tryz.cellsStr, Tryz.cellsInts, Tryz.cellsSens] at h10
    simp [Tryz.cellsInt, Tryz.cellsStr, Tryz.cellsInts, Tryz.cellsSens] at h11
    simp [Tryz.cellsInt, Tryz.cellsStr, Tryz.cellsInts, Tryz.cellsSens] at h12
    simp [Tryz.cellsInt, Tryz.cellsStr, Tryz.cellsInts, Tryz.cellsSens] at h13
    simp [Tryz.cellsInt, Tryz.cellsStr, Tryz.cellsInts, Tryz.cellsSens] at h14
    simp [Tryz.cellsInt, Tryz.cellsStr, Tryz.cellsInts, Tryz.cellsSens] at h15
    simp [Tryz.cellsInt, Tryz.cellsStr, Tryz.cellsInts, Tryz.cellsSens] at h16
    simp [Tryz.cellsInt, Tryz.cellsStr, Tryz.cellsInts, Tryz.cellsSens] at h17
    simp [Tryz.cellsInt, Tryz.cellsStr, Tryz.cellsInts, Tryz.cellsSens] at h18
    simp [Tryz.cellsInt, Tryz.cellsStr, Tryz.cellsInts, Tryz.cellsSens] at h19
    simp [Tryz.cellsInt, Tryz.cellsStr, Tryz.cellsInts, Tryz.cellsSens] at h20
    obtain ⟨x0, hs, _, hsz⟩ := DataW.trod_string Tryz.underlying9 h0
    simp only [List.cons.injEq, and_true] at hs
    subst hs
    obtain ⟨x1, rfl, w1⟩ := int_of_trod h1
    obtain ⟨x2, rfl, w2⟩ := int_of_trod h2
    obtain ⟨x4, rfl, w4⟩ := int_of_trod h4
    obtain ⟨x5, rfl, w5⟩ := int_of_trod h5
    obtain ⟨x6, rfl, w6⟩ := int_of_trod h6
    obtain ⟨x7, rfl, w7⟩ := int_of_trod h7
    obtain ⟨x8, rfl, w8⟩ := int_of_trod h8
    obtain ⟨x9, rfl, w9⟩ := int_of_trod h9
    obtain ⟨x10, rfl, w10⟩ := int_of_trod h10
    obtain ⟨x11, rfl, w11⟩ := int_of_trod h11
    obtain ⟨x12, rfl, w12⟩ := int_of_trod h12
    obtain ⟨x13, rfl, w13⟩ := int_of_trod h13
    obtain ⟨x14, rfl, w14⟩ := int_of_trod h14
    obtain ⟨x15, rfl, w15⟩ := int_of_trod h15
    obtain ⟨x16, rfl, w16⟩ := int_of_trod h16
    obtain ⟨x17, rfl, w17⟩ := int_of_trod h17
    obtain ⟨x18, rfl, w18⟩ := int_of_trod h18
    obtain ⟨x20, rfl, w20⟩ := int_of_trod h20
    simp only [DataW.weights, Tryz.underlying25, List.map, List.toList_toArray, DataW.weightsEach, List.mem_append] at hw
    simp only [List.flatMap_cons, List.flatMap_nil, List.append_nil, List.mem_append] at hlt
    obtain ⟨a3, l3, p3, e3, ⟨u3, v3, t3⟩, r3⟩ := introw_of_trod h3 (fun q hq => hw q (by simp [hq])) (fun q hq => hlt q (by simp [hq]))
    obtain ⟨a4, l4, p4, e4, u4, v4, t4, r4⟩ := rows_of_trod senL (fun d => I64 d.kind ∧ I64 d.at_ ∧ I64 d.tol) 3 24 Tryz.underlying23 Tryz.cellsSen Tryz.bytesSen (by omega) (by omega)
      (fun n cs y hl h _ _ => sen_of_trod n cs y hl h) h19 (fun q hq => hw q (by simp [hq])) (fun q hq => hlt q (by simp [hq]))
    simp only [List.cons.injEq, and_true] at e3 e4
    subst e3 e4
    exact ⟨⟨x0, x1, x2, l3, x4, x5, x6, x7, x8, x9, x10, x11, x12, x13, x14, x15, x16, x17, x18, l4, x20⟩, ⟨a3, p3, a4, p4⟩, rfl, ⟨hsz, ⟨w1, w2, w4, w5, w6, w7, w8, w9, w10, w11, w12, w13, w14, w15, w16, w17, w18, w20⟩, u3, v3, u4, Nat.le_trans u4 (cap_small v4 (by omega)), t3, t4⟩, r3, r4⟩
set_option maxRecDepth 100000 in
theorem st_of_trod {n : Nat} {cs : List Value} {y : DataW H × List MemPlace} (h : DataW.trod enc Tryz.prog W 0 (fun _ => true) true n 27 cs = some y)
    (hw : ∀ q ∈ DataW.weights Tryz.prog 27 y.1, q ≤ reachBytes) (hlt : ∀ q ∈ y.2, q.block < W.heap.size) :
    ∃ s : St, cs = stL s ∧ (I64 s.pos ∧ I64 s.charge) := by
  obtain ⟨xs, m, _, rfl, hl, hxl, hf⟩ := DataW.trod_struct Tryz.underlying27 h
  rw [Tryz.cellsSt] at hl
  match cs, hl, xs, hxl with
  | [c0, c1, c2], _, [y0, y1, y2], _ =>
    have h0 := hf 0 _ rfl
    have h1 := hf 1 _ rfl
    have h2 := hf 2 _ rfl
    simp [Tryz.cellsInt, Tryz.cellsBool] at h0 h1 h2
    obtain ⟨x0, rfl, w0⟩ := int_of_trod h0
    obtain ⟨x1, rfl, w1⟩ := int_of_trod h1
    obtain ⟨x2, rfl⟩ := bool_of_trod h2
    exact ⟨⟨x0, x1, x2⟩, rfl, w0, w1⟩
set_option maxRecDepth 100000 in
theorem sp_of_trod {n : Nat} {cs : List Value} {y : DataW H × List MemPlace} (h : DataW.trod enc Tryz.prog W 0 (fun _ => true) true n 35 cs = some y)
    (hw : ∀ q ∈ DataW.weights Tryz.prog 35 y.1, q ≤ reachBytes) (hlt : ∀ q ∈ y.2, q.block < W.heap.size) :
    ∃ s : Sp, cs = spL s ∧ (I64 s.order ∧ I64 s.outer ∧ I64 s.inner) := by
  obtain ⟨xs, m, _, rfl, hl, hxl, hf⟩ := DataW.trod_struct Tryz.underlying35 h
  rw [Tryz.cellsSp] at hl
  match cs, hl, xs, hxl with
  | [c0, c1, c2, c3], _, [y0, y1, y2, y3], _ =>
    have h0 := hf 0 _ rfl
    have h1 := hf 1 _ rfl
    have h2 := hf 2 _ rfl
    have h3 := hf 3 _ rfl
    simp [Tryz.cellsInt, Tryz.cellsBool] at h0 h1 h2 h3
    obtain ⟨x0, rfl, w0⟩ := int_of_trod h0
    obtain ⟨x1, rfl⟩ := bool_of_trod h1
    obtain ⟨x2, rfl, w2⟩ := int_of_trod h2
    obtain ⟨x3, rfl, w3⟩ := int_of_trod h3
    exact ⟨⟨x0, x1, x2, x3⟩, rfl, w0, w2, w3⟩

theorem Tryz.bytesSt : Tryz.prog.bytesOf 27 = 24 := by kernel_rfl
theorem Tryz.bytesSp : Tryz.prog.bytesOf 35 = 32 := by kernel_rfl
theorem strow_of_trod {fuel : Nat} {cs : List Value} {x : DataW H × List MemPlace} (h : DataW.trod enc Tryz.prog W 0 (fun _ => true) true fuel 36 cs = some x)
    (hw : ∀ n ∈ DataW.weights Tryz.prog 36 x.1, n ≤ reachBytes) (hlt : ∀ q ∈ x.2, q.block < W.heap.size) :
    ∃ (a : Option Addr) (l : List St) (cap : Nat), cs = [.slice a l.length cap] ∧ (l.length ≤ cap ∧ l.length ≤ 140737488355328 ∧ ∀ s ∈ l, I64 s.pos ∧ I64 s.charge) ∧ RowsL (fun _ s => stL s) 3 W a l := by
  obtain ⟨a, l, cap, e, h1, h2, h3, h4⟩ := rows_of_trod stL (fun s => I64 s.pos ∧ I64 s.charge) 3 24 Tryz.underlying36 Tryz.cellsSt Tryz.bytesSt (by omega) (by omega) (fun n cs y hl h hw hlt => st_of_trod h hw hlt) h hw hlt
  exact ⟨a, l, cap, e, ⟨h1, Nat.le_trans h1 (cap_small h2 (by omega)), h3⟩, h4⟩
theorem sprow_of_trod {fuel : Nat} {cs : List Value} {x : DataW H × List MemPlace} (h : DataW.trod enc Tryz.prog W 0 (fun _ => true) true fuel 28 cs = some x)
    (hw : ∀ n ∈ DataW.weights Tryz.prog 28 x.1, n ≤ reachBytes) (hlt : ∀ q ∈ x.2, q.block < W.heap.size) :
    ∃ (a : Option Addr) (l : List Sp) (cap : Nat), cs = [.slice a l.length cap] ∧ (l.length ≤ cap ∧ l.length ≤ 140737488355328 ∧ ∀ s ∈ l, I64 s.order ∧ I64 s.outer ∧ I64 s.inner) ∧ RowsL (fun _ s => spL s) 4 W a l := by
  obtain ⟨a, l, cap, e, h1, h2, h3, h4⟩ := rows_of_trod spL (fun s => I64 s.order ∧ I64 s.outer ∧ I64 s.inner) 4 32 Tryz.underlying28 Tryz.cellsSp Tryz.bytesSp (by omega) (by omega) (fun n cs y hl h hw hlt => sp_of_trod h hw hlt) h hw hlt
  exact ⟨a, l, cap, e, ⟨h1, Nat.le_trans h1 (cap_small h2 (by omega)), h3⟩, h4⟩
set_option maxRecDepth 100000 in
/-- Both levels, and whether there is power. -/
theorem sides_of_trod {n : Nat} {cs : List Value} {y : DataW H × List MemPlace} (h : DataW.trod enc Tryz.prog W 0 (fun _ => true) true n 43 cs = some y)
    (hw : ∀ q ∈ DataW.weights Tryz.prog 43 y.1, q ≤ reachBytes) (hlt : ∀ q ∈ y.2, q.block < W.heap.size) :
    ∃ (o i : Int) (p : Bool), cs = [.int .i64 o, .int .i64 i, .bool p] ∧ I64 o ∧ I64 i := by
  obtain ⟨xs, m, _, rfl, hl, hxl, hf⟩ := DataW.trod_struct Tryz.underlying43 h
  rw [show Tryz.prog.cellsOf 43 = 3 by kernel_rfl] at hl
  match cs, hl, xs, hxl with
  | [c0, c1, c2], _, [y0, y1, y2], _ =>
    have h0 := hf 0 _ rfl
    have h1 := hf 1 _ rfl
    have h2 := hf 2 _ rfl
    simp [Tryz.cellsInt, Tryz.cellsBool] at h0 h1 h2
    obtain ⟨x0, rfl, w0⟩ := int_of_trod h0
    obtain ⟨x1, rfl, w1⟩ := int_of_trod h1
    obtain ⟨x2, rfl⟩ := bool_of_trod h2
    exact ⟨x0, x1, x2, rfl, w0, w1⟩
end
end Go.Proofs.YtdoklolinbmhpaaGreat
