/- Tide, part S: arguments opened: gauges and tables as they are read before the call. -/
import Derived.Test.YtblneiegekdnjaaTN
import Derived.ProofKit
import Derived.OpenShut
import Derived.SizedLaws
import Derived.Deep.Slices
set_option linter.all false
namespace Go.Proofs.Ytblneiegekdnjaa
open Go.ChangeShapes Go.WideShapes Go.ChangeAt Go.RowKit Go.Deep

theorem Try.own : ownKnob Try.prog.godebug = none := by kernel_rfl
theorem Try.laidOut : laidOutB Try.prog = true := by kernel_rfl
theorem Try.cellsInt : Try.prog.cellsOf 3 = 1 := by kernel_rfl
theorem Try.cellsSpan : Try.prog.cellsOf 32 = 2 := by kernel_rfl
theorem Try.cellsDat : Try.prog.cellsOf 93 = 3 := by kernel_rfl
theorem Try.cellsRdg : Try.prog.cellsOf 114 = 2 := by kernel_rfl
theorem Try.cellsGau : Try.prog.cellsOf 43 = 5 := by kernel_rfl
theorem Try.bytesInt : Try.prog.bytesOf 3 = 8 := by kernel_rfl
theorem Try.bytesDat : Try.prog.bytesOf 93 = 24 := by kernel_rfl
theorem Try.bytesRdg : Try.prog.bytesOf 114 = 16 := by kernel_rfl

theorem i64_of_wf {x : Int} (h : (Lit.int .i64 x).wf = true) : I64 x := by
  simp [Lit.wf, IntKind.min, IntKind.max, IntKind.signed, IntKind.bits] at h
  exact ⟨by omega, by omega⟩
theorem wf_of_i64 {x : Int} (h : I64 x) : (Lit.int .i64 x).wf = true := by
  obtain ⟨h1, h2⟩ := h
  simp [Lit.wf, IntKind.min, IntKind.max, IntKind.signed, IntKind.bits]
  omega
theorem add_at (b o n : Nat) : (⟨b, o, none⟩ : Addr).add n = ⟨b, o + n, none⟩ := by
  unfold Addr.add; split
  · rename_i h; subst h; rfl
  · rfl

theorem weightsAll_mem {H : Type} {P : Program} {e : TypeId} {q : Nat} : ∀ {l : List (DataW H)} {d : DataW H}, d ∈ l → q ∈ d.weights P e → q ∈ DataW.weightsAll P e l
  | a :: l, d, hd, hq => by
    simp only [DataW.weightsAll, List.mem_append]
    rcases List.mem_cons.1 hd with rfl | hd
    · exact .inl hq
    · exact .inr (weightsAll_mem hd hq)

section
variable {H : Type} {enc : TypeId × Value → H} {W : World}

/-- A slice of rows, as it is read before the call. -/
theorem rows_of_trod {α : Type} [Inhabited α] (R : World → Nat → Nat → α → Prop) (Wf : α → Prop) (size bytes : Nat) {t e : TypeId} (ht : Try.prog.underlying t = some (.slice e)) (hc : Try.prog.cellsOf e = size) (hb : Try.prog.bytesOf e = bytes) (hbp : 0 < bytes) (hsp : 0 < size)
    (mk : ∀ b o n cs y, (∀ i, i < size → W.cell? ⟨b, o + i, none⟩ = cs[i]?) → cs.length = size → DataW.trod enc Try.prog W 0 (fun _ => true) true n e cs = some y → (∀ q ∈ DataW.weights Try.prog e y.1, q ≤ reachBytes) → (∀ q ∈ y.2, q.block < W.heap.size) → ∃ x : α, R W b o x ∧ Wf x)
    {fuel : Nat} {cs : List Value} {x : DataW H × List MemPlace} (h : DataW.trod enc Try.prog W 0 (fun _ => true) true fuel t cs = some x)
    (hw : ∀ n ∈ DataW.weights Try.prog t x.1, n ≤ reachBytes) (hlt : ∀ q ∈ x.2, q.block < W.heap.size) :
    ∃ (a : Option Addr) (l : List α) (cap : Nat), cs = [.slice a l.length cap] ∧ l.length ≤ cap ∧ cap ≤ 140737488355328 ∧ (∀ x ∈ l, Wf x) ∧ RowsAt R size W a l := by
  rcases open_slice ht h with ⟨rfl, rfl⟩ | ⟨a, len, cap, m, n, D, Pl, rfl, _, hl, hm, hmm, rfl, hx⟩
  · exact ⟨none, [], 0, rfl, Nat.le_refl _, by omega, by simp, .inl rfl⟩
  · simp only [if_true] at hmm
    subst hmm
    rw [hc] at hx
    have hcap : m * bytes ≤ reachBytes := by
      have := hw ((len + (m - len)) * Try.prog.bytesOf e) (by simp [DataW.weights, ht])
      rw [hb, show len + (m - len) = m by omega] at this
      exact this
    have hcap' : m ≤ 140737488355328 := by
      have h1 : m * 1 ≤ m * bytes := Nat.mul_le_mul_left _ hbp
      have h2 := reachBytes_lt
      omega
    by_cases h0 : len = 0
    · subst h0
      exact ⟨some a, [], m, rfl, Nat.zero_le _, hcap', by simp, .inl rfl⟩
    · obtain ⟨b, o, spot⟩ := a
      have hspot : spot = none := by
        obtain ⟨cs', h1, _⟩ := hx 0 (by omega)
        obtain ⟨_, hlen, hcell⟩ := World.cells?_some h1
        have := hcell 0 hsp
        simp only [Nat.zero_mul, Addr.add, if_true] at this
        rw [List.getElem?_eq_getElem (by omega)] at this
        exact World.cell?_spot this
      subst hspot
      have hblk : b < W.heap.size := by
        refine hlt (.cell b o) (List.mem_append_left _ (MemPlace.mem_row.2 ⟨0, ?_, by simp⟩))
        rw [hc]; exact Nat.mul_pos (by omega) hsp
      obtain ⟨f, hf⟩ := choose_lt (α := α) (n := len) (p := fun i x => R W b (o + i * size) x ∧ Wf x) (fun i hi => by
        obtain ⟨cs', h1, h2⟩ := hx i (by omega)
        obtain ⟨_, hlen, hcell⟩ := World.cells?_some h1
        refine mk b (o + i * size) n cs' _ (fun j hj => ?_) hlen h2 (fun q hq => ?_) (fun q hq => ?_)
        · have := hcell j hj; rwa [add_at, add_at] at this
        · refine hw q ?_
          simp only [DataW.weights, ht, List.mem_cons, List.mem_append]
          refine .inr (.inl ?_)
          exact weightsAll_mem (List.mem_map.2 ⟨i, List.mem_range.2 hi, rfl⟩) hq
        · refine hlt q (List.mem_append_right _ (List.mem_flatMap.2 ⟨i, List.mem_range.2 (by omega), hq⟩)))
      refine ⟨some ⟨b, o, none⟩, (List.range len).map f, m, by simp, by simp; omega, hcap', ?_, .inr ⟨b, o, rfl, hblk, fun i hi => ?_⟩⟩
      · intro x hx'
        obtain ⟨i, hi, rfl⟩ := List.mem_map.1 hx'
        exact (hf i (List.mem_range.1 hi)).2
      · simp only [List.length_map, List.length_range] at hi
        simpa using (hf i hi).1

theorem int_of_trod {n : Nat} {c : Value} {y : DataW H × List MemPlace} (h : DataW.trod enc Try.prog W 0 (fun _ => true) true n 3 [c] = some y) : ∃ x : Int, c = .int .i64 x ∧ I64 x := by
  obtain ⟨x, hc, _, hw⟩ := DataW.trod_int Try.underlying3 h
  exact ⟨x, by simpa using hc, i64_of_wf hw⟩

theorem dat_of_trod (b o n : Nat) (cs : List Value) (y : DataW H × List MemPlace) (hcell : ∀ i, i < 3 → W.cell? ⟨b, o + i, none⟩ = cs[i]?) (hl : cs.length = 3)
    (h : DataW.trod enc Try.prog W 0 (fun _ => true) true n 93 cs = some y) : ∃ d : Dat, DatAt W b o d ∧ (I64 d.from_ ∧ I64 d.lo ∧ I64 d.hi) := by
  match cs, hl with
  | [c0, c1, c2], _ =>
    obtain ⟨y0, y1, m, _, _, h0, h1⟩ := trod_struct2 Try.underlying93 h
    obtain ⟨x0, rfl, w0⟩ := int_of_trod (by simpa [Try.cellsInt] using h0)
    have h1 : DataW.trod enc Try.prog W 0 (fun _ => true) true m 32 [c1, c2] = some y1 := by simpa [Try.cellsSpan] using h1
    obtain ⟨z0, z1, k, _, _, g0, g1⟩ := trod_struct2 Try.underlying32 h1
    obtain ⟨x1, rfl, w1⟩ := int_of_trod (by simpa [Try.cellsInt] using g0)
    obtain ⟨x2, rfl, w2⟩ := int_of_trod (by simpa [Try.cellsInt] using g1)
    exact ⟨⟨x0, x1, x2⟩, ⟨by simpa using hcell 0 (by omega), by simpa using hcell 1 (by omega), by simpa using hcell 2 (by omega)⟩, w0, w1, w2⟩
theorem rdg_of_trod (b o n : Nat) (cs : List Value) (y : DataW H × List MemPlace) (hcell : ∀ i, i < 2 → W.cell? ⟨b, o + i, none⟩ = cs[i]?) (hl : cs.length = 2)
    (h : DataW.trod enc Try.prog W 0 (fun _ => true) true n 114 cs = some y) : ∃ d : Rdg, RdgAt W b o d ∧ (I64 d.tick ∧ I64 d.value) := by
  match cs, hl with
  | [c0, c1], _ =>
    obtain ⟨y0, y1, m, _, _, h0, h1⟩ := trod_struct2 Try.underlying114 h
    obtain ⟨x0, rfl, w0⟩ := int_of_trod (by simpa [Try.cellsInt] using h0)
    obtain ⟨x1, rfl, w1⟩ := int_of_trod (by simpa [Try.cellsInt] using h1)
    exact ⟨⟨x0, x1⟩, ⟨by simpa using hcell 0 (by omega), by simpa using hcell 1 (by omega)⟩, w0, w1⟩

set_option maxRecDepth 100000 in
/-- A gauge's five cells, as they are read before the call. -/
theorem gau_of_trod {n : Nat} {cs : List Value} {y : DataW H × List MemPlace} (h : DataW.trod enc Try.prog W 0 (fun _ => true) true n 43 cs = some y)
    (hw : ∀ q ∈ DataW.weights Try.prog 43 y.1, q ≤ reachBytes) (hlt : ∀ q ∈ y.2, q.block < W.heap.size) :
    ∃ (g : Gau) (p : GPos), cs = [.string g.name, .int .i64 g.err, .int .i64 g.rate, .slice p.da g.ds.length p.dc, .slice p.ra g.rs.length p.rc] ∧ GauOk W p g := by
  obtain ⟨xs, m, _, rfl, hl, hxl, hf⟩ := DataW.trod_struct Try.underlying43 h
  rw [Try.cellsGau] at hl
  match cs, hl, xs, hxl with
  | [c0, c1, c2, c3, c4], _, [y0, y1, y2, y3, y4], _ =>
    have h0 := hf 0 _ rfl
    have h1 := hf 1 _ rfl
    have h2 := hf 2 _ rfl
    have h3 := hf 3 _ rfl
    have h4 := hf 4 _ rfl
    have k3 : Try.prog.cellsOf 40 = 1 := by kernel_rfl
    have k4 : Try.prog.cellsOf 41 = 1 := by kernel_rfl
    have k0 : Try.prog.cellsOf 9 = 1 := by kernel_rfl
    simp [Try.cellsInt, k0, k3, k4] at h0 h1 h2 h3 h4
    obtain ⟨s, hs, _, hsz⟩ := DataW.trod_string Try.underlying9 h0
    simp only [List.cons.injEq, and_true] at hs
    subst hs
    obtain ⟨x1, rfl, w1⟩ := int_of_trod h1
    obtain ⟨x2, rfl, w2⟩ := int_of_trod h2
    simp only [DataW.weights, Try.underlying43, List.map, List.toList_toArray, DataW.weightsEach, List.mem_append] at hw
    simp only [List.flatMap_cons, List.flatMap_nil, List.append_nil, List.mem_append] at hlt
    obtain ⟨a3, l3, p3, e3, u3, v3, t3, r3⟩ := rows_of_trod DatAt (fun d => I64 d.from_ ∧ I64 d.lo ∧ I64 d.hi) 3 24 Try.underlying40 Try.cellsDat Try.bytesDat (by omega) (by omega)
      (fun b o n cs y h1 h2 h3 _ _ => dat_of_trod b o n cs y h1 h2 h3) h3 (fun q hq => hw q (by simp [hq])) (fun q hq => hlt q (by simp [hq]))
    obtain ⟨a4, l4, p4, e4, u4, v4, t4, r4⟩ := rows_of_trod RdgAt (fun d => I64 d.tick ∧ I64 d.value) 2 16 Try.underlying41 Try.cellsRdg Try.bytesRdg (by omega) (by omega)
      (fun b o n cs y h1 h2 h3 _ _ => rdg_of_trod b o n cs y h1 h2 h3) h4 (fun q hq => hw q (by simp [hq])) (fun q hq => hlt q (by simp [hq]))
    simp only [List.cons.injEq, and_true] at e3 e4
    subst e3 e4
    exact ⟨⟨s, x1, x2, l3, l4⟩, ⟨a3, p3, a4, p4⟩, rfl, ⟨hsz, w1, w2, u3, Nat.le_trans u3 v3, u4, Nat.le_trans u4 v4, t3, t4⟩, r3, r4⟩

/-- An array of ints, as it is read before the call. -/
theorem ints_of_trod {t : TypeId} {k n : Nat} (ht : Try.prog.underlying t = some (.array k 3)) (hc : Try.prog.cellsOf t = k) {cs : List Value} {y : DataW H × List MemPlace} (h : DataW.trod enc Try.prog W 0 (fun _ => true) true n t cs = some y) :
    cs.length = k ∧ ∀ i, i < k → ∃ x : Int, cs[i]? = some (.int .i64 x) ∧ I64 x := by
  obtain ⟨xs, m, _, rfl, hl, hxl, hf⟩ := DataW.trod_array ht h
  rw [hc] at hl
  refine ⟨hl, fun i hi => ?_⟩
  have h1 := hf i hi
  rw [Try.cellsInt, Nat.mul_one, List.getElem?_eq_getElem (by omega)] at h1
  have h2 : (cs.drop i).take 1 = [cs[i]'(by omega)] := by
    rw [List.drop_eq_getElem_cons (by omega)]; rfl
  rw [h2] at h1
  obtain ⟨x, hx, w⟩ := int_of_trod h1
  exact ⟨x, by rw [List.getElem?_eq_getElem (by omega), hx], w⟩
end
end Go.Proofs.Ytblneiegekdnjaa
