/- Gate, part WQ: the example. -/
import Derived.Test.YtpgggffcpcjahaaWX
import Derived.Test.YtpgggffcpcjahaaWH
set_option linter.all false
namespace Go.Proofs.Ytpgggffcpcjahaa
open Go.RowKit

theorem wpList_builtD {P : Program} {ops : Array Oper} {rest : List Oper} {o : Oper} {a : Act} {w : World} {Q : Exit → Act → World → Prop} (t : TypeId) (cells : Array Value) (hg : o.guard = none) (parts : Array (Nat × Operand)) (ho : o.op = .build t parts)
    (hb : P.built t (parts.map fun (i, x) => (i, a.eval x)).toList = some cells)
    (h : wpList P ops Q rest (a.put o.dst (.agg cells)) w) : wpList P ops Q (o :: rest) a w := by
  refine wpList_build hg t parts ho (by rw [hb]; rfl) ?_
  rw [hb]
  exact h
theorem senE_ex : ∀ s ∈ exGt.ss, I64 s.kind ∧ I64 s.at_ ∧ I64 s.tol := by decide
set_option maxRecDepth 100000 in
set_option maxHeartbeats 2000000 in
theorem example_any (w : World) :
    Calls Try.prog 24 #[] w fun e w' => ∃ a b, e = .returned (.agg (gtL exGt ⟨some ⟨a, 0, none⟩, 2, some ⟨b, 0, none⟩, 3⟩).toArray) ∧ GtOk w' ⟨some ⟨a, 0, none⟩, 2, some ⟨b, 0, none⟩, 3⟩ exGt ∧ ((w.heap.size < a ∧ w.heap.size < b) ∧ a < w'.heap.size ∧ b < w'.heap.size) ∧ Below w.heap.size w w' := by
  obtain ⟨p, hp⟩ : ∃ p : GtP, p = ⟨some ⟨w.heap.size + 1, 0, none⟩, 2, some ⟨w.heap.size + 1 + 1, 0, none⟩, 3⟩ := ⟨_, rfl⟩
  have hg : (((w.alloc (.cells #[.string ⟨#[]⟩, .int .i64 0, .int .i64 0, .slice none 0 0, .int .i64 0, .int .i64 0, .int .i64 0, .int .i64 0, .int .i64 0, .int .i64 0, .int .i64 0, .int .i64 0, .int .i64 0, .int .i64 0, .int .i64 0, .int .i64 0, .int .i64 0, .int .i64 0, .int .i64 0, .slice none 0 0, .int .i64 0] 33)).alloc (.cells #[.int .i64 600, .int .i64 400] 3)).alloc (.cells #[.int .i64 1, .int .i64 0, .int .i64 10, .int .i64 1, .int .i64 0, .int .i64 10, .int .i64 2, .int .i64 995, .int .i64 5] 107)).heap[w.heap.size]? = some (.cells #[.string ⟨#[]⟩, .int .i64 0, .int .i64 0, .slice none 0 0, .int .i64 0, .int .i64 0, .int .i64 0, .int .i64 0, .int .i64 0, .int .i64 0, .int .i64 0, .int .i64 0, .int .i64 0, .int .i64 0, .int .i64 0, .int .i64 0, .int .i64 0, .int .i64 0, .int .i64 0, .slice none 0 0, .int .i64 0] 33 (0, 0)) := by
    have hB : Below (w.alloc (.cells #[.string ⟨#[]⟩, .int .i64 0, .int .i64 0, .slice none 0 0, .int .i64 0, .int .i64 0, .int .i64 0, .int .i64 0, .int .i64 0, .int .i64 0, .int .i64 0, .int .i64 0, .int .i64 0, .int .i64 0, .int .i64 0, .int .i64 0, .int .i64 0, .int .i64 0, .int .i64 0, .slice none 0 0, .int .i64 0] 33)).heap.size (w.alloc (.cells #[.string ⟨#[]⟩, .int .i64 0, .int .i64 0, .slice none 0 0, .int .i64 0, .int .i64 0, .int .i64 0, .int .i64 0, .int .i64 0, .int .i64 0, .int .i64 0, .int .i64 0, .int .i64 0, .int .i64 0, .int .i64 0, .int .i64 0, .int .i64 0, .int .i64 0, .int .i64 0, .slice none 0 0, .int .i64 0] 33)) (((w.alloc (.cells #[.string ⟨#[]⟩, .int .i64 0, .int .i64 0, .slice none 0 0, .int .i64 0, .int .i64 0, .int .i64 0, .int .i64 0, .int .i64 0, .int .i64 0, .int .i64 0, .int .i64 0, .int .i64 0, .int .i64 0, .int .i64 0, .int .i64 0, .int .i64 0, .int .i64 0, .int .i64 0, .slice none 0 0, .int .i64 0] 33)).alloc (.cells #[.int .i64 600, .int .i64 400] 3)).alloc (.cells #[.int .i64 1, .int .i64 0, .int .i64 10, .int .i64 1, .int .i64 0, .int .i64 10, .int .i64 2, .int .i64 995, .int .i64 5] 107)) := ((Below.refl _ _).alloc (Nat.le_refl _) _).alloc (by simp) _
    rw [hB.block w.heap.size (by simp)]
    exact heap_alloc_new w _
  have HG := hid hg
  have HB := hid (show Below w.heap.size w (((w.alloc (.cells #[.string ⟨#[]⟩, .int .i64 0, .int .i64 0, .slice none 0 0, .int .i64 0, .int .i64 0, .int .i64 0, .int .i64 0, .int .i64 0, .int .i64 0, .int .i64 0, .int .i64 0, .int .i64 0, .int .i64 0, .int .i64 0, .int .i64 0, .int .i64 0, .int .i64 0, .int .i64 0, .slice none 0 0, .int .i64 0] 33)).alloc (.cells #[.int .i64 600, .int .i64 400] 3)).alloc (.cells #[.int .i64 1, .int .i64 0, .int .i64 10, .int .i64 1, .int .i64 0, .int .i64 10, .int .i64 2, .int .i64 995, .int .i64 5] 107)) from (((Below.refl w.heap.size w).alloc (Nat.le_refl _) _).alloc (by simp) _).alloc (by simp <;> omega) _)
  have HO := hid (show ∀ i (h : i < exGt.own.length), (((w.alloc (.cells #[.string ⟨#[]⟩, .int .i64 0, .int .i64 0, .slice none 0 0, .int .i64 0, .int .i64 0, .int .i64 0, .int .i64 0, .int .i64 0, .int .i64 0, .int .i64 0, .int .i64 0, .int .i64 0, .int .i64 0, .int .i64 0, .int .i64 0, .int .i64 0, .int .i64 0, .int .i64 0, .slice none 0 0, .int .i64 0] 33)).alloc (.cells #[.int .i64 600, .int .i64 400] 3)).alloc (.cells #[.int .i64 1, .int .i64 0, .int .i64 10, .int .i64 1, .int .i64 0, .int .i64 10, .int .i64 2, .int .i64 995, .int .i64 5] 107)).cell? ⟨w.heap.size + 1, 0 + i, none⟩ = some (.int .i64 exGt.own[i]) from fun i hi => by
    match i, hi with
    | 0, _ => simp [go_sem, exGt]
    | 1, _ => simp [go_sem, exGt])
  have HS := hid (show (((w.alloc (.cells #[.string ⟨#[]⟩, .int .i64 0, .int .i64 0, .slice none 0 0, .int .i64 0, .int .i64 0, .int .i64 0, .int .i64 0, .int .i64 0, .int .i64 0, .int .i64 0, .int .i64 0, .int .i64 0, .int .i64 0, .int .i64 0, .int .i64 0, .int .i64 0, .int .i64 0, .int .i64 0, .slice none 0 0, .int .i64 0] 33)).alloc (.cells #[.int .i64 600, .int .i64 400] 3)).alloc (.cells #[.int .i64 1, .int .i64 0, .int .i64 10, .int .i64 1, .int .i64 0, .int .i64 10, .int .i64 2, .int .i64 995, .int .i64 5] 107)).rangeAt (w.heap.size + 1 + 1) 0 (senL ⟨1, 0, 10⟩ ++ (senL ⟨1, 0, 10⟩ ++ senL ⟨2, 995, 5⟩)) from by
    have := range_alloc ((w.alloc (.cells #[.string ⟨#[]⟩, .int .i64 0, .int .i64 0, .slice none 0 0, .int .i64 0, .int .i64 0, .int .i64 0, .int .i64 0, .int .i64 0, .int .i64 0, .int .i64 0, .int .i64 0, .int .i64 0, .int .i64 0, .int .i64 0, .int .i64 0, .int .i64 0, .int .i64 0, .int .i64 0, .slice none 0 0, .int .i64 0] 33)).alloc (.cells #[.int .i64 600, .int .i64 400] 3)) (senL ⟨1, 0, 10⟩ ++ (senL ⟨1, 0, 10⟩ ++ senL ⟨2, 995, 5⟩)) 107
    rw [World.size_alloc, World.size_alloc] at this
    exact this)
  have HZ := hid (show w.heap.size + 1 + 1 < (((w.alloc (.cells #[.string ⟨#[]⟩, .int .i64 0, .int .i64 0, .slice none 0 0, .int .i64 0, .int .i64 0, .int .i64 0, .int .i64 0, .int .i64 0, .int .i64 0, .int .i64 0, .int .i64 0, .int .i64 0, .int .i64 0, .int .i64 0, .int .i64 0, .int .i64 0, .int .i64 0, .int .i64 0, .slice none 0 0, .int .i64 0] 33)).alloc (.cells #[.int .i64 600, .int .i64 400] 3)).alloc (.cells #[.int .i64 1, .int .i64 0, .int .i64 10, .int .i64 1, .int .i64 0, .int .i64 10, .int .i64 2, .int .i64 995, .int .i64 5] 107)).heap.size by simp)
  clear hg
  go_enter Try.func24, Try.ntmps24
  have HP := hid hp
  clear hp
  go_wp2_with (first | (apply wpList_builtD 33 (gtL exGt ⟨some ⟨w.heap.size + 1, 0, none⟩, 2, some ⟨w.heap.size + 1 + 1, 0, none⟩, 3⟩).toArray; exact rfl; exact rfl; kernel_rfl) | (apply wpList_store_row (hg := HG.out) (h1 := gtL_one exGt ⟨some ⟨w.heap.size + 1, 0, none⟩, 2, some ⟨w.heap.size + 1 + 1, 0, none⟩, 3⟩); exact rfl; exact rfl; exact rfl; exact rfl; kernel_rfl; exact rfl))
  have hset := setRow_heap _ _ _ (gtL exGt ⟨some ⟨w.heap.size + 1, 0, none⟩, 2, some ⟨w.heap.size + 1 + 1, 0, none⟩, 3⟩).toArray _ _ HG.out
  have hBF := below_setRow (cs := (gtL exGt ⟨some ⟨w.heap.size + 1, 0, none⟩, 2, some ⟨w.heap.size + 1 + 1, 0, none⟩, 3⟩).toArray) HB.out (Nat.le_refl w.heap.size)
  have hOF := fun i (h : i < exGt.own.length) => (cell_setRow_other (((w.alloc (.cells #[.string ⟨#[]⟩, .int .i64 0, .int .i64 0, .slice none 0 0, .int .i64 0, .int .i64 0, .int .i64 0, .int .i64 0, .int .i64 0, .int .i64 0, .int .i64 0, .int .i64 0, .int .i64 0, .int .i64 0, .int .i64 0, .int .i64 0, .int .i64 0, .int .i64 0, .int .i64 0, .slice none 0 0, .int .i64 0] 33)).alloc (.cells #[.int .i64 600, .int .i64 400] 3)).alloc (.cells #[.int .i64 1, .int .i64 0, .int .i64 10, .int .i64 1, .int .i64 0, .int .i64 10, .int .i64 2, .int .i64 995, .int .i64 5] 107)) w.heap.size (gtL exGt ⟨some ⟨w.heap.size + 1, 0, none⟩, 2, some ⟨w.heap.size + 1 + 1, 0, none⟩, 3⟩).toArray ⟨w.heap.size + 1, 0 + i, none⟩ (by show w.heap.size + 1 ≠ w.heap.size; omega)).trans (HO.out i h)
  have hSF : (World.setRow (((w.alloc (.cells #[.string ⟨#[]⟩, .int .i64 0, .int .i64 0, .slice none 0 0, .int .i64 0, .int .i64 0, .int .i64 0, .int .i64 0, .int .i64 0, .int .i64 0, .int .i64 0, .int .i64 0, .int .i64 0, .int .i64 0, .int .i64 0, .int .i64 0, .int .i64 0, .int .i64 0, .int .i64 0, .slice none 0 0, .int .i64 0] 33)).alloc (.cells #[.int .i64 600, .int .i64 400] 3)).alloc (.cells #[.int .i64 1, .int .i64 0, .int .i64 10, .int .i64 1, .int .i64 0, .int .i64 10, .int .i64 2, .int .i64 995, .int .i64 5] 107)) w.heap.size (gtL exGt ⟨some ⟨w.heap.size + 1, 0, none⟩, 2, some ⟨w.heap.size + 1 + 1, 0, none⟩, 3⟩).toArray).rangeAt (w.heap.size + 1 + 1) 0 (senL ⟨1, 0, 10⟩ ++ (senL ⟨1, 0, 10⟩ ++ senL ⟨2, 995, 5⟩)) := fun j v hv => (cell_setRow_other (((w.alloc (.cells #[.string ⟨#[]⟩, .int .i64 0, .int .i64 0, .slice none 0 0, .int .i64 0, .int .i64 0, .int .i64 0, .int .i64 0, .int .i64 0, .int .i64 0, .int .i64 0, .int .i64 0, .int .i64 0, .int .i64 0, .int .i64 0, .int .i64 0, .int .i64 0, .int .i64 0, .int .i64 0, .slice none 0 0, .int .i64 0] 33)).alloc (.cells #[.int .i64 600, .int .i64 400] 3)).alloc (.cells #[.int .i64 1, .int .i64 0, .int .i64 10, .int .i64 1, .int .i64 0, .int .i64 10, .int .i64 2, .int .i64 995, .int .i64 5] 107)) w.heap.size (gtL exGt ⟨some ⟨w.heap.size + 1, 0, none⟩, 2, some ⟨w.heap.size + 1 + 1, 0, none⟩, 3⟩).toArray ⟨w.heap.size + 1 + 1, 0 + j, none⟩ (by show w.heap.size + 1 + 1 ≠ w.heap.size; omega)).trans (HS.out j v hv)
  have hZF : w.heap.size + 1 + 1 < (World.setRow (((w.alloc (.cells #[.string ⟨#[]⟩, .int .i64 0, .int .i64 0, .slice none 0 0, .int .i64 0, .int .i64 0, .int .i64 0, .int .i64 0, .int .i64 0, .int .i64 0, .int .i64 0, .int .i64 0, .int .i64 0, .int .i64 0, .int .i64 0, .int .i64 0, .int .i64 0, .int .i64 0, .int .i64 0, .slice none 0 0, .int .i64 0] 33)).alloc (.cells #[.int .i64 600, .int .i64 400] 3)).alloc (.cells #[.int .i64 1, .int .i64 0, .int .i64 10, .int .i64 1, .int .i64 0, .int .i64 10, .int .i64 2, .int .i64 995, .int .i64 5] 107)) w.heap.size (gtL exGt ⟨some ⟨w.heap.size + 1, 0, none⟩, 2, some ⟨w.heap.size + 1 + 1, 0, none⟩, 3⟩).toArray).heap.size := by rw [setRow_size]; exact HZ.out
  generalize World.setRow _ _ _ = F at *
  refine bodyPost_ret (v := .agg (gtL exGt ⟨some ⟨w.heap.size + 1, 0, none⟩, 2, some ⟨w.heap.size + 1 + 1, 0, none⟩, 3⟩).toArray) (results_cell_row Try.results24 _ F w.heap.size _ _ _ _ rfl hset Try.underlying33 rfl (by kernel_rfl)) rfl ⟨w.heap.size + 1, w.heap.size + 1 + 1, rfl, ⟨?_, ?_, ?_⟩, ⟨⟨by omega, by omega⟩, by omega, by omega⟩, hBF⟩
  · exact ⟨by decide, by decide, Nat.le_refl 2, by decide, Nat.le_refl 3, by decide, by decide, senE_ex⟩
  · exact .inr ⟨_, _, rfl, by omega, hOF⟩
  · refine .inr ⟨_, _, rfl, hZF, fun i hi j v hv => ?_⟩
    have hj : j < 3 := (List.getElem?_eq_some_iff.1 hv).1
    have h3 : j = 0 ∨ j = 1 ∨ j = 2 := by omega
    match i, hi with
    | 0, _ => rcases h3 with rfl | rfl | rfl
              · exact hSF 0 v hv
              · exact hSF 1 v hv
              · exact hSF 2 v hv
    | 1, _ => rcases h3 with rfl | rfl | rfl
              · exact hSF 3 v hv
              · exact hSF 4 v hv
              · exact hSF 5 v hv
    | 2, _ => rcases h3 with rfl | rfl | rfl
              · exact hSF 6 v hv
              · exact hSF 7 v hv
              · exact hSF 8 v hv
end Go.Proofs.Ytpgggffcpcjahaa
