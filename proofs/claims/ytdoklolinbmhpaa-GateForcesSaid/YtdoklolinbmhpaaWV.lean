/- Gate, part WV: arguments opened: an array of three numbers. -/
import Derived.Test.YtdoklolinbmhpaaWS
set_option linter.all false
namespace Go.Proofs.Ytdoklolinbmhpaa
open Go.ChangeShapes Go.WideShapes Go.ChangeAt Go.RowKit Go.Deep

section
variable {H : Type} {enc : TypeId × Value → H} {W : World}
theorem Try.cellsI3 : Try.prog.cellsOf 36 = 3 := by kernel_rfl
set_option maxRecDepth 100000 in
/-- Three numbers. -/
theorem ints3_of_trod {n : Nat} {cs : List Value} {y : DataW H × List MemPlace} (h : DataW.trod enc Try.prog W 0 (fun _ => true) true n 36 cs = some y) :
    ∃ a b c : Int, cs = [.int .i64 a, .int .i64 b, .int .i64 c] ∧ (I64 a ∧ I64 b ∧ I64 c) := by
  obtain ⟨xs, m, _, rfl, hl, hxl, hf⟩ := DataW.trod_array Try.underlying36 h
  rw [Try.cellsI3] at hl
  match cs, hl with
  | [c0, c1, c2], _ =>
    have h0 := hf 0 (by omega)
    have h1 := hf 1 (by omega)
    have h2 := hf 2 (by omega)
    simp [Try.cellsInt] at h0 h1 h2
    rw [List.getElem?_eq_getElem (by omega)] at h0 h1 h2
    obtain ⟨x0, rfl, w0⟩ := int_of_trod h0
    obtain ⟨x1, rfl, w1⟩ := int_of_trod h1
    obtain ⟨x2, rfl, w2⟩ := int_of_trod h2
    exact ⟨x0, x1, x2, rfl, w0, w1, w2⟩
end
end Go.Proofs.Ytdoklolinbmhpaa
