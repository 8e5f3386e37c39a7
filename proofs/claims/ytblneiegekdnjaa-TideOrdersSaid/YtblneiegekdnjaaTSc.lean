/- Tide, part Sc: arguments opened: slices of small integers. -/
import Derived.Test.YtblneiegekdnjaaTS
set_option linter.all false
namespace Go.Proofs.Ytblneiegekdnjaa
open Go.ChangeShapes Go.WideShapes Go.ChangeAt Go.RowKit Go.Deep

/-- Small integers in memory, from an address on, if there are any. -/
def KindsAt (w : World) (k : IntKind) (a : Option Addr) (l : List Int) : Prop :=
  l = [] ∨ ∃ b o, a = some ⟨b, o, none⟩ ∧ b < w.heap.size ∧ ∀ i (h : i < l.length), w.cell? ⟨b, o + i, none⟩ = some (.int k l[i])
theorem KindsAt.later {w w' : World} {k : IntKind} {a : Option Addr} {l : List Int} {B : Nat} (h : KindsAt w k a l) (hb : Below B w w') (hB : w.heap.size ≤ B) : KindsAt w' k a l := by
  rcases h with h | ⟨b, o, ha, hs, hc⟩
  · exact .inl h
  · exact .inr ⟨b, o, ha, Nat.lt_of_lt_of_le hs hb.size, fun i hi => by rw [hb.cell (p := ⟨b, o + i, none⟩) (by simp; omega)]; exact hc i hi⟩
theorem Try.cellsU8 : Try.prog.cellsOf 5 = 1 := by kernel_rfl
theorem Try.bytesU8 : Try.prog.bytesOf 5 = 1 := by kernel_rfl
theorem Try.cellsI8 : Try.prog.cellsOf 69 = 1 := by kernel_rfl
theorem Try.bytesI8 : Try.prog.bytesOf 69 = 1 := by kernel_rfl

section
variable {H : Type} {enc : TypeId × Value → H} {W : World}
theorem u8row_of_trod {fuel : Nat} {cs : List Value} {x : DataW H × List MemPlace} (h : DataW.trod enc Try.prog W 0 (fun _ => true) true fuel 75 cs = some x)
    (hw : ∀ n ∈ DataW.weights Try.prog 75 x.1, n ≤ reachBytes) (hlt : ∀ q ∈ x.2, q.block < W.heap.size) :
    ∃ (a : Option Addr) (l : List Int) (cap : Nat), cs = [.slice a l.length cap] ∧ l.length ≤ 140737488355328 ∧ (∀ x ∈ l, 0 ≤ x ∧ x ≤ 255) ∧ KindsAt W .u8 a l := by
  obtain ⟨a, l, cap, e, h1, h2, h3, h4⟩ := rows_of_trod (fun w b o (x : Int) => w.cell? ⟨b, o, none⟩ = some (.int .u8 x)) (fun x => 0 ≤ x ∧ x ≤ 255) 1 1 Try.underlying75 Try.cellsU8 Try.bytesU8 (by omega) (by omega)
    (fun b o n cs y hc hl h _ _ => by
      match cs, hl with
      | [c0], _ =>
        obtain ⟨x0, hx, _, w0⟩ := DataW.trod_int Try.underlying5 h
        obtain rfl : c0 = .int .u8 x0 := by simpa using hx
        refine ⟨x0, by simpa using hc 0 (by omega), ?_⟩
        simp [Lit.wf, IntKind.min, IntKind.max, IntKind.signed, IntKind.bits] at w0
        omega) h hw hlt
  refine ⟨a, l, cap, e, Nat.le_trans h1 h2, h3, ?_⟩
  rcases h4 with h4 | ⟨b, o, ha, hb, hc⟩
  · exact .inl h4
  · exact .inr ⟨b, o, ha, hb, fun i hi => by simpa using hc i hi⟩
theorem i8row_of_trod {fuel : Nat} {cs : List Value} {x : DataW H × List MemPlace} (h : DataW.trod enc Try.prog W 0 (fun _ => true) true fuel 66 cs = some x)
    (hw : ∀ n ∈ DataW.weights Try.prog 66 x.1, n ≤ reachBytes) (hlt : ∀ q ∈ x.2, q.block < W.heap.size) :
    ∃ (a : Option Addr) (l : List Int) (cap : Nat), cs = [.slice a l.length cap] ∧ l.length ≤ 140737488355328 ∧ (∀ x ∈ l, -128 ≤ x ∧ x ≤ 127) ∧ KindsAt W .i8 a l := by
  obtain ⟨a, l, cap, e, h1, h2, h3, h4⟩ := rows_of_trod (fun w b o (x : Int) => w.cell? ⟨b, o, none⟩ = some (.int .i8 x)) (fun x => -128 ≤ x ∧ x ≤ 127) 1 1 Try.underlying66 Try.cellsI8 Try.bytesI8 (by omega) (by omega)
    (fun b o n cs y hc hl h _ _ => by
      match cs, hl with
      | [c0], _ =>
        obtain ⟨x0, hx, _, w0⟩ := DataW.trod_int Try.underlying69 h
        obtain rfl : c0 = .int .i8 x0 := by simpa using hx
        refine ⟨x0, by simpa using hc 0 (by omega), ?_⟩
        simp [Lit.wf, IntKind.min, IntKind.max, IntKind.signed, IntKind.bits] at w0
        omega) h hw hlt
  refine ⟨a, l, cap, e, Nat.le_trans h1 h2, h3, ?_⟩
  rcases h4 with h4 | ⟨b, o, ha, hb, hc⟩
  · exact .inl h4
  · exact .inr ⟨b, o, ha, hb, fun i hi => by simpa using hc i hi⟩
end
end Go.Proofs.Ytblneiegekdnjaa
