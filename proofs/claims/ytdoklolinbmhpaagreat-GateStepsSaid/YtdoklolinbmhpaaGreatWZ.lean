/- Gate, part WQ: the example. -/
import Derived.Test.YtdoklolinbmhpaaGreatWX
import Derived.Test.YtdoklolinbmhpaaGreatWJ
import Derived.Test.YtdoklolinbmhpaaGreatWP
import Derived.Great.BuildSlice
import Derived.Test.YtdoklolinbmhpaaGreatWE
import Derived.Test.YtdoklolinbmhpaaGreatWC
set_option linter.all false
namespace Go.Proofs.YtdoklolinbmhpaaGreat
open Go.RowKit

theorem wpList_builtD {P : Program} {ops : Array Oper} {rest : List Oper} {o : Oper} {a : Act} {w : World} {Q : Exit → Act → World → Prop} (t : TypeId) (cells : Array Value) (hg : o.guard = none) (parts : Array (Nat × Operand)) (ho : o.op = .build t parts)
    (hb : P.built t (parts.map fun (i, x) => (i, a.eval x)).toList = some cells)
    (h : wpList P ops Q rest (a.put o.dst (.agg cells)) w) : wpList P ops Q (o :: rest) a w := by
  refine wpList_build hg t parts ho (by rw [hb]; rfl) ?_
  rw [hb]
  exact h
theorem senE_ex : ∀ s ∈ exGt.ss, I64 s.kind ∧ I64 s.at_ ∧ I64 s.tol := by decide
set_option maxRecDepth 100000 in
set_option maxHeartbeats 2000000 in
theorem example_any (w : World) :
    Calls Tryz.prog 43 #[] w fun e w' => ∃ a b, e = .returned (.agg (gtL exGt ⟨some ⟨a, 0, none⟩, 2, some ⟨b, 0, none⟩, 3⟩).toArray) ∧ GtOk w' ⟨some ⟨a, 0, none⟩, 2, some ⟨b, 0, none⟩, 3⟩ exGt ∧ ((w.heap.size < a ∧ w.heap.size < b) ∧ a < w'.heap.size ∧ b < w'.heap.size) ∧ Below w.heap.size w w' := by
  obtain ⟨p, hp⟩ : ∃ p : GtP, p = ⟨some ⟨w.heap.size + 1, 0, none⟩, 2, some ⟨w.heap.size + 1 + 1, 0, none⟩, 3⟩ := ⟨_, rfl⟩
  have hg : (((w.alloc (.cells #[.string ⟨#[]⟩, .int .i64 0, .int .i64 0, .slice none 0 0, .int .i64 0, .int .i64 0, .int .i64 0, .int .i64 0, .int .i64 0, .int .i64 0, .int .i64 0, .int .i64 0, .int .i64 0, .int .i64 0, .int .i64 0, .int .i64 0, .int .i64 0, .int .i64 0, .int .i64 0, .slice none 0 0, .int .i64 0] 25)).alloc (.cells #[.int .i64 600, .int .i64 400] 3)).alloc (.cells #[.int .i64 1, .int .i64 0, .int .i64 10, .int .i64 1, .int .i64 0, .int .i64 10, .int .i64 2, .int .i64 995, .int .i64 5] 121)).heap[w.heap.size]? = some (.cells #[.string ⟨#[]⟩, .int .i64 0, .int .i64 0, .slice none 0 0, .int .i64 0, .int .i64 0, .int .i64 0, .int .i64 0, .int .i64 0, .int .i64 0, .int .i64 0, .int .i64 0, .int .i64 0, .int .i64 0, .int .i64 0, .int .i64 0, .int .i64 0, .int .i64 0, .int .i64 0, .slice none 0 0, .int .i64 0] 25 (0, 0)) := by
    have hB : Below (w.alloc (.cells #[.string ⟨#[]⟩, .int .i64 0, .int .i64 0, .slice none 0 0, .int .i64 0, .int .i64 0, .int .i64 0, .int .i64 0, .int .i64 0, .int .i64 0, .int .i64 0, .int .i64 0, .int .i64 0, .int .i64 0, .int .i64 0, .int .i64 0, .int .i64 0, .int .i64 0, .int .i64 0, .slice none 0 0, .int .i64 0] 25)).heap.size (w.alloc (.cells #[.string ⟨#[]⟩, .int .i64 0, .int .i64 0, .slice none 0 0, .int .i64 0, .int .i64 0, .int .i64 0, .int .i64 0, .int .i64 0, .int .i64 0, .int .i64 0, .int .i64 0, .int .i64 0, .int .i64 0, .int .i64 0, .int .i64 0, .int .i64 0, .int .i64 0, .int .i64 0, .slice none 0 0, .int .i64 0] 25)) (((w.alloc (.cells #[.string ⟨#[]⟩, .int .i64 0, .int .i64 0, .slice none 0 0, .int .i64 0, .int .i64 0, .int .i64 0, .int .i64 0, .int .i64 0, .int .i64 0, .int .i64 0, .int .i64 0, .int .i64 0, .int .i64 0, .int .i64 0, .int .i64 0, .int .i64 0, .int .i64 0, .int .i64 0, .slice none 0 0, .int .i64 0] 25)).alloc (.cells #[.int .i64 600, .int .i64 400] 3)).alloc (.cells #[.int .i64 1, .int .i64 0, .int .i64 10, .int .i64 1, .int .i64 0, .int .i64 10, .int .i64 2, .int .i64 995, .int .i64 5] 121)) := ((Below.refl _ _).alloc (Nat.le_refl _) _).alloc (by simp) _
    rw [hB.block w.heap.size (by simp)]
    exact heap_alloc_new w _
  have HG := hid hg
  have HB := hid (show Below w.heap.size w (((w.alloc (.cells #[.string ⟨#[]⟩, .int .i64 0, .int .i64 0, .slice none 0 0, .int .i64 0, .int .i64 0, .int .i64 0, .int .i64 0, .int .i64 0, .int .i64 0, .int .i64 0, .int .i64 0, .int .i64 0, .int .i64 0, .int .i64 0, .int .i64 0, .int .i64 0, .int .i64 0, .int .i64 0, .slice none 0 0, .int .i64 0] 25)).alloc (.cells #[.int .i64 600, .int .i64 400] 3)).alloc (.cells #[.int .i64 1, .int .i64 0, .int .i64 10, .int .i64 1, .int .i64 0, .int .i64 10, .int .i64 2, .int .i64 995, .int .i64 5] 121)) from (((Below.refl w.heap.size w).alloc (Nat.le_refl _) _).alloc (by simp) _).alloc (by simp <;> omega) _)
  have HO := hid (show ∀ i (h : i < exGt.own.length), (((w.alloc (.cells #[.string ⟨#[]⟩, .int .i64 0, .int .i64 0, .slice none 0 0, .int .i64 0, .int .i64 0, .int .i64 0, .int .i64 0, .int .i64 0, .int .i64 0, .int .i64 0, .int .i64 0, .int .i64 0, .int .i64 0, .int .i64 0, .int .i64 0, .int .i64 0, .int .i64 0, .int .i64 0, .slice none 0 0, .int .i64 0] 25)).alloc (.cells #[.int .i64 600, .int .i64 400] 3)).alloc (.cells #[.int .i64 1, .int .i64 0, .int .i64 10, .int .i64 1, .int .i64 0, .int .i64 10, .int .i64 2, .int .i64 995, .int .i64 5] 121)).cell? ⟨w.heap.size + 1, 0 + i, none⟩ = some (.int .i64 exGt.own[i]) from fun i hi => by
    match i, hi with
    | 0, _ => simp [go_sem, exGt]
    | 1, _ => simp [go_sem, exGt])
  have HS := hid (show (((w.alloc (.cells #[.string ⟨#[]⟩, .int .i64 0, .int .i64 0, .slice none 0 0, .int .i64 0, .int .i64 0, .int .i64 0, .int .i64 0, .int .i64 0, .int .i64 0, .int .i64 0, .int .i64 0, .int .i64 0, .int .i64 0, .int .i64 0, .int .i64 0, .int .i64 0, .int .i64 0, .int .i64 0, .slice none 0 0, .int .i64 0] 25)).alloc (.cells #[.int .i64 600, .int .i64 400] 3)).alloc (.cells #[.int .i64 1, .int .i64 0, .int .i64 10, .int .i64 1, .int .i64 0, .int .i64 10, .int .i64 2, .int .i64 995, .int .i64 5] 121)).rangeAt (w.heap.size + 1 + 1) 0 (senL ⟨1, 0, 10⟩ ++ (senL ⟨1, 0, 10⟩ ++ senL ⟨2, 995, 5⟩)) from by
    have := range_alloc ((w.alloc (.cells #[.string ⟨#[]⟩, .int .i64 0, .int .i64 0, .slice none 0 0, .int .i64 0, .int .i64 0, .int .i64 0, .int .i64 0, .int .i64 0, .int .i64 0, .int .i64 0, .int .i64 0, .int .i64 0, .int .i64 0, .int .i64 0, .int .i64 0, .int .i64 0, .int .i64 0, .int .i64 0, .slice none 0 0, .int .i64 0] 25)).alloc (.cells #[.int .i64 600, .int .i64 400] 3)) (senL ⟨1, 0, 10⟩ ++ (senL ⟨1, 0, 10⟩ ++ senL ⟨2, 995, 5⟩)) 121
    rw [World.size_alloc, World.size_alloc] at this
    exact this)
  have HZ := hid (show w.heap.size + 1 + 1 < (((w.alloc (.cells #[.string ⟨#[]⟩, .int .i64 0, .int .i64 0, .slice none 0 0, .int .i64 0, .int .i64 0, .int .i64 0, .int .i64 0, .int .i64 0, .int .i64 0, .int .i64 0, .int .i64 0, .int .i64 0, .int .i64 0, .int .i64 0, .int .i64 0, .int .i64 0, .int .i64 0, .int .i64 0, .slice none 0 0, .int .i64 0] 25)).alloc (.cells #[.int .i64 600, .int .i64 400] 3)).alloc (.cells #[.int .i64 1, .int .i64 0, .int .i64 10, .int .i64 1, .int .i64 0, .int .i64 10, .int .i64 2, .int .i64 995, .int .i64 5] 121)).heap.size by simp)
  clear hg
  go_enter Tryz.func43, Tryz.ntmps43
  have HP := hid hp
  clear hp
  go_wp2_with (first | (apply wpList_builtD 25 (gtL exGt ⟨some ⟨w.heap.size + 1, 0, none⟩, 2, some ⟨w.heap.size + 1 + 1, 0, none⟩, 3⟩).toArray; exact rfl; exact rfl; kernel_rfl) | (apply wpList_store_row (hg := HG.out) (h1 := gtL_one exGt ⟨some ⟨w.heap.size + 1, 0, none⟩, 2, some ⟨w.heap.size + 1 + 1, 0, none⟩, 3⟩); exact rfl; exact rfl; exact rfl; exact rfl; kernel_rfl; exact rfl))
  have hset := setRow_heap _ _ _ (gtL exGt ⟨some ⟨w.heap.size + 1, 0, none⟩, 2, some ⟨w.heap.size + 1 + 1, 0, none⟩, 3⟩).toArray _ _ HG.out
  have hBF := below_setRow (cs := (gtL exGt ⟨some ⟨w.heap.size + 1, 0, none⟩, 2, some ⟨w.heap.size + 1 + 1, 0, none⟩, 3⟩).toArray) HB.out (Nat.le_refl w.heap.size)
  have hOF := fun i (h : i < exGt.own.length) => (cell_setRow_other (((w.alloc (.cells #[.string ⟨#[]⟩, .int .i64 0, .int .i64 0, .slice none 0 0, .int .i64 0, .int .i64 0, .int .i64 0, .int .i64 0, .int .i64 0, .int .i64 0, .int .i64 0, .int .i64 0, .int .i64 0, .int .i64 0, .int .i64 0, .int .i64 0, .int .i64 0, .int .i64 0, .int .i64 0, .slice none 0 0, .int .i64 0] 25)).alloc (.cells #[.int .i64 600, .int .i64 400] 3)).alloc (.cells #[.int .i64 1, .int .i64 0, .int .i64 10, .int .i64 1, .int .i64 0, .int .i64 10, .int .i64 2, .int .i64 995, .int .i64 5] 121)) w.heap.size (gtL exGt ⟨some ⟨w.heap.size + 1, 0, none⟩, 2, some ⟨w.heap.size + 1 + 1, 0, none⟩, 3⟩).toArray ⟨w.heap.size + 1, 0 + i, none⟩ (by show w.heap.size + 1 ≠ w.heap.size; omega)).trans (HO.out i h)
  have hSF : (World.setRow (((w.alloc (.cells #[.string ⟨#[]⟩, .int .i64 0, .int .i64 0, .slice none 0 0, .int .i64 0, .int .i64 0, .int .i64 0, .int .i64 0, .int .i64 0, .int .i64 0, .int .i64 0, .int .i64 0, .int .i64 0, .int .i64 0, .int .i64 0, .int .i64 0, .int .i64 0, .int .i64 0, .int .i64 0, .slice none 0 0, .int .i64 0] 25)).alloc (.cells #[.int .i64 600, .int .i64 400] 3)).alloc (.cells #[.int .i64 1, .int .i64 0, .int .i64 10, .int .i64 1, .int .i64 0, .int .i64 10, .int .i64 2, .int .i64 995, .int .i64 5] 121)) w.heap.size (gtL exGt ⟨some ⟨w.heap.size + 1, 0, none⟩, 2, some ⟨w.heap.size + 1 + 1, 0, none⟩, 3⟩).toArray).rangeAt (w.heap.size + 1 + 1) 0 (senL ⟨1, 0, 10⟩ ++ (senL ⟨1, 0, 10⟩ ++ senL ⟨2, 995, 5⟩)) := fun j v hv => (cell_setRow_other (((w.alloc (.cells #[.string ⟨#[]⟩, .int .i64 0, .int .i64 0, .slice none 0 0, .int .i64 0, .int .i64 0, .int .i64 0, .int .i64 0, .int .i64 0, .int .i64 0, .int .i64 0, .int .i64 0, .int .i64 0, .int .i64 0, .int .i64 0, .int .i64 0, .int .i64 0, .int .i64 0, .int .i64 0, .slice none 0 0, .int .i64 0] 25)).alloc (.cells #[.int .i64 600, .int .i64 400] 3)).alloc (.cells #[.int .i64 1, .int .i64 0, .int .i64 10, .int .i64 1, .int .i64 0, .int .i64 10, .int .i64 2, .int .i64 995, .int .i64 5] 121)) w.heap.size (gtL exGt ⟨some ⟨w.heap.size + 1, 0, none⟩, 2, some ⟨w.heap.size + 1 + 1, 0, none⟩, 3⟩).toArray ⟨w.heap.size + 1 + 1, 0 + j, none⟩ (by show w.heap.size + 1 + 1 ≠ w.heap.size; omega)).trans (HS.out j v hv)
  have hZF : w.heap.size + 1 + 1 < (World.setRow (((w.alloc (.cells #[.string ⟨#[]⟩, .int .i64 0, .int .i64 0, .slice none 0 0, .int .i64 0, .int .i64 0, .int .i64 0, .int .i64 0, .int .i64 0, .int .i64 0, .int .i64 0, .int .i64 0, .int .i64 0, .int .i64 0, .int .i64 0, .int .i64 0, .int .i64 0, .int .i64 0, .int .i64 0, .slice none 0 0, .int .i64 0] 25)).alloc (.cells #[.int .i64 600, .int .i64 400] 3)).alloc (.cells #[.int .i64 1, .int .i64 0, .int .i64 10, .int .i64 1, .int .i64 0, .int .i64 10, .int .i64 2, .int .i64 995, .int .i64 5] 121)) w.heap.size (gtL exGt ⟨some ⟨w.heap.size + 1, 0, none⟩, 2, some ⟨w.heap.size + 1 + 1, 0, none⟩, 3⟩).toArray).heap.size := by rw [setRow_size]; exact HZ.out
  generalize World.setRow _ _ _ = F at *
  refine bodyPost_ret (v := .agg (gtL exGt ⟨some ⟨w.heap.size + 1, 0, none⟩, 2, some ⟨w.heap.size + 1 + 1, 0, none⟩, 3⟩).toArray) (results_cell_row Tryz.results43 _ F w.heap.size _ _ _ _ rfl hset Tryz.underlying25 rfl (by kernel_rfl)) rfl ⟨w.heap.size + 1, w.heap.size + 1 + 1, rfl, ⟨?_, ?_, ?_⟩, ⟨⟨by omega, by omega⟩, by omega, by omega⟩, hBF⟩
  · exact ⟨by decide, by decide, Nat.le_refl 2, by decide, Nat.le_refl 3, by decide, by decide, senE_ex⟩
  · exact .inr ⟨_, _, rfl, by omega, hOF⟩
  · refine .inr ⟨_, _, rfl, hZF, fun i hi j v hv => ?_⟩
    have hj : j < 3 := (List.getElem?_eq_some_iff.1 hv).1
    have h3 : j = 0 ∨ j = 1 ∨ j = 2 := by omega
    match i, hi with
    | 0, _ => rcases h3 with rfl | rfl | rfl
              · exact hSF 0 v hv
              · exact hSF 1 v hv
              · exact hSF 2 v hv
    | 1, _ => rcases h3 with rfl | rfl | rfl
              · exact hSF 3 v hv
              · exact hSF 4 v hv
              · exact hSF 5 v hv
    | 2, _ => rcases h3 with rfl | rfl | rfl
              · exact hSF 6 v hv
              · exact hSF 7 v hv
              · exact hSF 8 v hv
end Go.Proofs.YtdoklolinbmhpaaGreat

set_option linter.all false
namespace Go.Proofs.YtdoklolinbmhpaaGreat
open Go.RowKit

set_option maxRecDepth 100000 in
set_option maxHeartbeats 2000000 in
theorem whereShort_any (g : Gt) (p : GtP) (ra : Option Addr) (m mc : Nat) (w : World) (hok : GtOk w p g) (h0 : gtE g = 0) (hm : m ≠ g.ss.length) :
    Calls Tryz.prog 16 #[.agg (gtL g p).toArray, .slice ra m mc] w fun e w' => e = .returned (.tuple #[.agg #[.int .i64 0, .int .i64 0], .int .i64 2]) ∧ Below w.heap.size w w' := by
  have HOk := hid hok
  have q2 : ((m : Int) != (g.ss.length : Int)) = true := by simp; omega
  have hB0 : Below (w.alloc (.cells (gtL g p).toArray 25)).heap.size (w.alloc (.cells (gtL g p).toArray 25)) ((w.alloc (.cells (gtL g p).toArray 25)).alloc (.cells #[.int .i64 0, .int .i64 0] 50)) := (Below.refl _ _).alloc (Nat.le_refl _) _
  have R1 := range_later (range_alloc w (gtL g p) 25) hB0 (by simp)
  have HGe := hid (gateError_any g p ((w.alloc (.cells (gtL g p).toArray 25)).alloc (.cells #[.int .i64 0, .int .i64 0] 50)) (hok.later (((Below.refl w.heap.size w).alloc (Nat.le_refl _) _).alloc (by simp) _) (Nat.le_refl _)))
  have HB := hid (show Below w.heap.size w ((w.alloc (.cells (gtL g p).toArray 25)).alloc (.cells #[.int .i64 0, .int .i64 0] 50)) from ((Below.refl w.heap.size w).alloc (Nat.le_refl _) _).alloc (by simp) _)
  rw [h0] at HGe
  clear hok h0 hm hB0
  go_enter Tryz.func16, Tryz.ntmps16
  go_wp2_with (refine wpList_load_mid rfl 25 _ rfl _ 0 rfl (gtL g p) _ R1 Tryz.underlying25 rfl (by kernel_rfl) ?_)
  refine (HGe.out).mono ?_
  rintro e w1 ⟨rfl, hb⟩
  have c19 := range_cell (range_later R1 hb (by simp <;> omega)) (show (gtL g p)[19]? = some (.slice p.sa g.ss.length p.sc) from rfl)
  have y0 : w1.cell? ⟨w.heap.size + 1, 0, none⟩ = some (.int .i64 0) := (hb.cell (p := ⟨w.heap.size + 1, 0, none⟩) (by simp)).trans (by simp [go_sem])
  have y1 : w1.cell? ⟨w.heap.size + 1, 1, none⟩ = some (.int .i64 0) := (hb.cell (p := ⟨w.heap.size + 1, 1, none⟩) (by simp)).trans (by simp [go_sem])
  have f0 : ∀ o, w1.frozen? ⟨w.heap.size + 1, o, none⟩ = false := fun o => (hb.frozen (p := ⟨w.heap.size + 1, o, none⟩) (by simp)).trans (by simp [go_sem])
  have hfin := HB.out.trans (hb.mono HB.out.size)
  clear R1 HGe hb HB
  go_wp2_with fail
  refine bodyPost_ret (v := .tuple #[.agg #[.int .i64 0, .int .i64 0], .int .i64 2]) (by simp [results, Tryz.results16, go_sem, y0, y1]) rfl ⟨rfl, ?_⟩
  exact (hfin.setCell (by simp) _).setCell (by simp) _
end Go.Proofs.YtdoklolinbmhpaaGreat

set_option linter.all false
namespace Go.Proofs.YtdoklolinbmhpaaGreat
open Go.RowKit

theorem Tryz.infoGt : (Tryz.prog.info? 25).map (fun i => (i.zero, i.size, i.bytes)) = some (some (.agg #[.string ⟨#[]⟩, .int .i64 0, .int .i64 0, .slice none 0 0, .int .i64 0, .int .i64 0, .int .i64 0, .int .i64 0, .int .i64 0, .int .i64 0, .int .i64 0, .int .i64 0, .int .i64 0, .int .i64 0, .int .i64 0, .int .i64 0, .int .i64 0, .int .i64 0, .int .i64 0, .slice none 0 0, .int .i64 0]), 21, 208) := by kernel_rfl
theorem run_two (W : World) (p1 p2 : GtP) : (Instr.buildSlice 57 2 #[(0, .agg (gtL exGt p2).toArray), (1, .agg (gtL exWest p1).toArray)]).run Tryz.prog W = .ok (.slice (some ⟨W.heap.size, 0, none⟩) 2 2) (W.alloc (.cells (gtL exGt p2 ++ gtL exWest p1).toArray 25)) := by
  obtain ⟨ie, hie, hz, hs, _⟩ := info_parts Tryz.infoGt
  refine run_buildSlice W _ _ 2 _ _ ie _ Tryz.underlying57 hie hz (by rw [hs]; decide) (by rw [hs]; decide) ?_
  rw [hs]; kernel_rfl
theorem keepPr {w x y : World} {X : Nat} {p1 : GtP} (hX : w.heap.size < X) (hxy : Below x.heap.size x y) (h : Below w.heap.size w x ∧ x.rangeAt X 0 (gtL exWest p1) ∧ (∃ v, x.cell? ⟨w.heap.size, 0, none⟩ = some v) ∧ (∃ v, x.cell? ⟨w.heap.size, 1, none⟩ = some v) ∧ (∀ o, x.frozen? ⟨w.heap.size, o, none⟩ = false) ∧ X < x.heap.size ∧ GtOk x p1 exGt) : Below w.heap.size w y ∧ y.rangeAt X 0 (gtL exWest p1) ∧ (∃ v, y.cell? ⟨w.heap.size, 0, none⟩ = some v) ∧ (∃ v, y.cell? ⟨w.heap.size, 1, none⟩ = some v) ∧ (∀ o, y.frozen? ⟨w.heap.size, o, none⟩ = false) ∧ X < y.heap.size ∧ GtOk y p1 exGt := by
  obtain ⟨h0, h1, h2, h3, h4, h5, h6⟩ := h
  have hs : w.heap.size < x.heap.size := by omega
  exact ⟨h0.trans (hxy.mono h0.size), range_later h1 hxy h5, by rw [hxy.cell (p := ⟨w.heap.size, 0, none⟩) hs]; exact h2, by rw [hxy.cell (p := ⟨w.heap.size, 1, none⟩) hs]; exact h3, fun o => (hxy.frozen (p := ⟨w.heap.size, o, none⟩) hs).trans (h4 o), Nat.lt_of_lt_of_le h5 hxy.size, h6.later hxy (Nat.le_refl _)⟩
theorem range_west {w : World} {b : Nat} {p : GtP} (h : w.rangeAt b 0 (gtL exGt p)) : (w.setCell ⟨b, 0, none⟩ (.string ⟨#[119, 101, 115, 116]⟩)).rangeAt b 0 (gtL exWest p) := by
  intro j v hv
  have e : gtL exWest p = (gtL exGt p).set 0 (.string ⟨#[119, 101, 115, 116]⟩) := rfl
  rw [e] at hv
  by_cases hj : j = 0
  · subst hj
    rw [List.getElem?_set_self (by show 0 < (gtL exGt p).length; exact (by decide : 0 < 21))] at hv
    cases hv
    have := h 0 _ (show (gtL exGt p)[0]? = some (.string exGt.name) from rfl)
    exact World.cell?_setCell_same' _ _ _ (by rw [this]; rfl)
  · rw [List.getElem?_set_ne (Ne.symm hj)] at hv
    exact (World.cell?_setCell_other _ _ _ _ (by intro e; injection e with e1 e2; omega)).trans (h j v hv)
theorem gtOk_same {x y : World} {a b oc sc : Nat} {g : Gt} (h : GtOk x ⟨some ⟨a, 0, none⟩, oc, some ⟨b, 0, none⟩, sc⟩ g) (hs : x.heap.size ≤ y.heap.size) (hc : ∀ q j, q = a ∨ q = b → y.cell? ⟨q, j, none⟩ = x.cell? ⟨q, j, none⟩) : GtOk y ⟨some ⟨a, 0, none⟩, oc, some ⟨b, 0, none⟩, sc⟩ g := by
  refine ⟨h.wf, ?_, ?_⟩
  · rcases h.own with h | ⟨b', o', ha, hs', hc'⟩
    · exact .inl h
    · obtain ⟨rfl, rfl⟩ : b' = a ∧ o' = 0 := by
        have := Option.some.inj ha; injection this with e1 e2; exact ⟨e1.symm, e2.symm⟩
      exact .inr ⟨b', 0, rfl, Nat.lt_of_lt_of_le hs' hs, fun i hi => (hc _ _ (.inl rfl)).trans (hc' i hi)⟩
  · rcases h.ss with h | ⟨b', o', ha, hs', hc'⟩
    · exact .inl h
    · obtain ⟨rfl, rfl⟩ : b' = b ∧ o' = 0 := by
        have := Option.some.inj ha; injection this with e1 e2; exact ⟨e1.symm, e2.symm⟩
      exact .inr ⟨b', 0, rfl, Nat.lt_of_lt_of_le hs' hs, fun i hi k v hv => (hc _ _ (.inr rfl)).trans (hc' i hi k v hv)⟩
theorem gtOk_set {x : World} {a b c j oc sc : Nat} {g : Gt} {v : Value} (hac : a ≠ c) (hbc : b ≠ c) (h : GtOk x ⟨some ⟨a, 0, none⟩, oc, some ⟨b, 0, none⟩, sc⟩ g) : GtOk (x.setCell ⟨c, j, none⟩ v) ⟨some ⟨a, 0, none⟩, oc, some ⟨b, 0, none⟩, sc⟩ g :=
  gtOk_same h (by simp) (fun q i hq => cs_o (.inl (by omega)))
theorem frozen_setRow {W : World} {b : Nat} {old cs : Array Value} {T : TypeId} (h : W.heap[b]? = some (.cells old T (0, 0))) (o : Nat) : (W.setRow b cs).frozen? ⟨b, o, none⟩ = false := by
  unfold World.frozen?
  rw [show (⟨b, o, none⟩ : Addr).block = b from rfl, setRow_heap _ _ _ cs _ _ h]
  simp
theorem wp_buildTwo {P : Program} {o : Oper} {a : Act} {w w' : World} {K : Act → World → Prop} {Q : Exit → Act → World → Prop} {v : Value} {vs : Array (Nat × Value)} {t : TypeId} {len : Nat} {parts : Array (Nat × Operand)} (hr : (Instr.buildSlice t len vs).run P w = .ok v w') (ho : o.op = .buildSlice t len parts) (hvs : (parts.map fun (i, x) => (i, a.eval x)) = vs) (hk : K (a.put o.dst v) w') : Oper.wp P o a w K Q := by
  unfold Oper.wp execOp
  simp only [ho, hvs, Sem.run_bind, hr, Result.andThen_ok]
  exact hk
theorem keepPrS {w x : World} {X a1 b1 : Nat} {p1 : GtP} {c d : Value} (hX : w.heap.size < X) (hp1 : p1 = ⟨some ⟨a1, 0, none⟩, 2, some ⟨b1, 0, none⟩, 3⟩) (hab : w.heap.size < a1 ∧ w.heap.size < b1) (h : Below w.heap.size w x ∧ x.rangeAt X 0 (gtL exWest p1) ∧ (∃ v, x.cell? ⟨w.heap.size, 0, none⟩ = some v) ∧ (∃ v, x.cell? ⟨w.heap.size, 1, none⟩ = some v) ∧ (∀ o, x.frozen? ⟨w.heap.size, o, none⟩ = false) ∧ X < x.heap.size ∧ GtOk x p1 exGt) : Below w.heap.size w ((x.setCell ⟨w.heap.size, 0, none⟩ c).setCell ⟨w.heap.size, 1, none⟩ d) ∧ ((x.setCell ⟨w.heap.size, 0, none⟩ c).setCell ⟨w.heap.size, 1, none⟩ d).rangeAt X 0 (gtL exWest p1) ∧ (∃ v, ((x.setCell ⟨w.heap.size, 0, none⟩ c).setCell ⟨w.heap.size, 1, none⟩ d).cell? ⟨w.heap.size, 0, none⟩ = some v) ∧ (∃ v, ((x.setCell ⟨w.heap.size, 0, none⟩ c).setCell ⟨w.heap.size, 1, none⟩ d).cell? ⟨w.heap.size, 1, none⟩ = some v) ∧ (∀ o, ((x.setCell ⟨w.heap.size, 0, none⟩ c).setCell ⟨w.heap.size, 1, none⟩ d).frozen? ⟨w.heap.size, o, none⟩ = false) ∧ X < ((x.setCell ⟨w.heap.size, 0, none⟩ c).setCell ⟨w.heap.size, 1, none⟩ d).heap.size ∧ GtOk ((x.setCell ⟨w.heap.size, 0, none⟩ c).setCell ⟨w.heap.size, 1, none⟩ d) p1 exGt := by
  obtain ⟨h0, h1, h2, h3, h4, h5, h6⟩ := h
  subst hp1
  exact ⟨(h0.setCell (Nat.le_refl _) _).setCell (Nat.le_refl _) _, fun j v hv => ((cs_o (.inl (by omega))).trans (cs_o (.inl (by omega)))).trans (h1 j v hv), cell_ex (cell_ex h2), cell_ex (cell_ex h3), fun o => by simpa using h4 o, by simpa using h5, gtOk_set (by omega) (by omega) (gtOk_set (by omega) (by omega) h6)⟩
theorem gtOk_west {x : World} {p : GtP} (h : GtOk x p exGt) : GtOk x p exWest := ⟨⟨by decide, h.wf.nums, h.wf.olen, h.wf.ocap, h.wf.slen, h.wf.scap, h.wf.own, h.wf.ss⟩, h.own, h.ss⟩
theorem pair_fin {w V : World} {X gb rb a1 b1 a2 b2 : Nat} {p1 p2 : GtP} (hB : Below w.heap.size w V) (hX : w.heap.size < X) (RG : V.rangeAt gb 0 (gtL exGt p2 ++ gtL exWest p1)) (RR : V.rangeAt rb 0 (ruL exRu)) (ok2 : GtOk V p2 exGt) (ok1 : GtOk V p1 exGt)
    (hp1 : p1 = ⟨some ⟨a1, 0, none⟩, 2, some ⟨b1, 0, none⟩, 3⟩) (hp2 : p2 = ⟨some ⟨a2, 0, none⟩, 2, some ⟨b2, 0, none⟩, 3⟩) (hab1 : w.heap.size < a1 ∧ w.heap.size < b1) (hab2 : w.heap.size < a2 ∧ w.heap.size < b2) (hg : gb < V.heap.size) (hr : rb < V.heap.size) (hg0 : w.heap.size < gb) (hr0 : w.heap.size < rb) {c d : Value} :
    SetOk ((V.setCell ⟨w.heap.size, 0, none⟩ c).setCell ⟨w.heap.size, 1, none⟩ d) ⟨some ⟨gb, 0, none⟩, [exGt, exWest], 2, fun i => if i = 0 then p2 else p1, some ⟨rb, 0, none⟩, [exRu], 1⟩ ∧ Below w.heap.size w ((V.setCell ⟨w.heap.size, 0, none⟩ c).setCell ⟨w.heap.size, 1, none⟩ d) := by
  have cell : ∀ q j, q ≠ w.heap.size → ((V.setCell ⟨w.heap.size, 0, none⟩ c).setCell ⟨w.heap.size, 1, none⟩ d).cell? ⟨q, j, none⟩ = V.cell? ⟨q, j, none⟩ := fun q j hq => (cs_o (.inl hq)).trans (cs_o (.inl hq))
  refine ⟨⟨⟨.inr ⟨gb, 0, rfl, by simpa using hg, fun i hi j v hv => ?_⟩, fun i hi => ?_⟩, ⟨Nat.le_refl 2, (by decide : 2 ≤ 140737488355328)⟩, .inr ⟨rb, 0, rfl, by simpa using hr, fun i hi j v hv => ?_⟩, ⟨Nat.le_refl 1, (by decide : 1 ≤ 140737488355328)⟩, fun r hr => by
    have : r = exRu := by simpa using hr
    subst this; decide⟩, (hB.setCell (Nat.le_refl _) _).setCell (Nat.le_refl _) _⟩
  · rw [cell _ _ (by omega)]
    have hl : j < 21 := (List.getElem?_eq_some_iff.1 hv).1
    match i, hi with
    | 0, _ =>
      have := RG j v (by rw [List.getElem?_append_left (show j < (gtL exGt p2).length from hl)]; exact hv)
      simpa using this
    | 1, _ =>
      have := RG (21 + j) v (by rw [List.getElem?_append_right (show (gtL exGt p2).length ≤ 21 + j by show 21 ≤ 21 + j; omega), show 21 + j - (gtL exGt p2).length = j by show 21 + j - 21 = j; omega]; exact hv)
      rw [show 0 + 1 * 21 + j = 0 + (21 + j) by omega]; exact this
  · subst hp1 hp2
    match i, hi with
    | 0, _ => exact gtOk_set (by omega) (by omega) (gtOk_set (by omega) (by omega) ok2)
    | 1, _ => exact gtOk_west (gtOk_set (by omega) (by omega) (gtOk_set (by omega) (by omega) ok1))
  · rw [cell _ _ (by omega)]
    have h0 : i = 0 := by simpa using hi
    subst h0
    have := RR j v hv
    simpa using this
/-- The pair of the examples. -/
def PairOf (w : World) (e : Ending) (w' : World) : Prop :=
  ∃ z : SetV, e = .returned (.agg #[.slice z.ga z.gs.length z.gc, .slice z.ra z.rs.length z.rc]) ∧ z.gs = [exGt, exWest] ∧ z.rs = [exRu] ∧ SetOk w' z ∧ Below w.heap.size w w'
set_option maxRecDepth 100000 in
set_option maxHeartbeats 4000000 in
theorem pair_any (w : World) : Calls Tryz.prog 44 #[] w (PairOf w) := by
  have B0 : Below w.heap.size w (w.alloc (.cells #[.slice none 0 0, .slice none 0 0] 60)) := (Below.refl _ _).alloc (Nat.le_refl _) _
  have s0 : w.heap.size < (w.alloc (.cells #[.slice none 0 0, .slice none 0 0] 60)).heap.size := by simp
  have y0 : (w.alloc (.cells #[.slice none 0 0, .slice none 0 0] 60)).cell? ⟨w.heap.size, 0, none⟩ = some (.slice none 0 0) := by simp [go_sem]
  have y1 : (w.alloc (.cells #[.slice none 0 0, .slice none 0 0] 60)).cell? ⟨w.heap.size, 1, none⟩ = some (.slice none 0 0) := by simp [go_sem]
  have f0 : ∀ o, (w.alloc (.cells #[.slice none 0 0, .slice none 0 0] 60)).frozen? ⟨w.heap.size, o, none⟩ = false := fun o => by simp [go_sem]
  go_enter Tryz.func44, Tryz.ntmps44
  go_wp2_with fail
  generalize World.alloc w _ = W1 at *
  refine (example_any _).mono ?_
  rintro e w1 ⟨a1, b1, rfl, hok1, hab1, hb1⟩
  obtain ⟨p1, hp1⟩ : ∃ p1 : GtP, p1 = ⟨some ⟨a1, 0, none⟩, 2, some ⟨b1, 0, none⟩, 3⟩ := ⟨_, rfl⟩
  rw [← hp1] at hok1 ⊢
  have HP1 := hid hp1
  clear hp1
  have hz21 := hid (show ∀ o, (World.setRow (w1.alloc (.cells #[.string ⟨#[]⟩, .int .i64 0, .int .i64 0, .slice none 0 0, .int .i64 0, .int .i64 0, .int .i64 0, .int .i64 0, .int .i64 0, .int .i64 0, .int .i64 0, .int .i64 0, .int .i64 0, .int .i64 0, .int .i64 0, .int .i64 0, .int .i64 0, .int .i64 0, .int .i64 0, .slice none 0 0, .int .i64 0] 25)) w1.heap.size (gtL exGt p1).toArray).frozen? ⟨w1.heap.size, o, none⟩ = false from fun o => frozen_setRow (heap_alloc_new w1 _) o)
  go_wp2_with (apply wpList_store_row (hg := heap_alloc_new w1 _) (h1 := gtL_one exGt p1); exact rfl; exact rfl; exact rfl; exact rfl; kernel_rfl; exact rfl; have RF := range_setRow (W := w1.alloc (.cells #[.string ⟨#[]⟩, .int .i64 0, .int .i64 0, .slice none 0 0, .int .i64 0, .int .i64 0, .int .i64 0, .int .i64 0, .int .i64 0, .int .i64 0, .int .i64 0, .int .i64 0, .int .i64 0, .int .i64 0, .int .i64 0, .int .i64 0, .int .i64 0, .int .i64 0, .int .i64 0, .slice none 0 0, .int .i64 0] 25)) (cs := gtL exGt p1) (heap_alloc_new w1 _); have BF := below_setRow (cs := (gtL exGt p1).toArray) ((Below.refl w1.heap.size w1).alloc (Nat.le_refl _) (.cells #[.string ⟨#[]⟩, .int .i64 0, .int .i64 0, .slice none 0 0, .int .i64 0, .int .i64 0, .int .i64 0, .int .i64 0, .int .i64 0, .int .i64 0, .int .i64 0, .int .i64 0, .int .i64 0, .int .i64 0, .int .i64 0, .int .i64 0, .int .i64 0, .int .i64 0, .int .i64 0, .slice none 0 0, .int .i64 0] 25)) (Nat.le_refl _); have sF : w1.heap.size < (World.setRow (w1.alloc (.cells #[.string ⟨#[]⟩, .int .i64 0, .int .i64 0, .slice none 0 0, .int .i64 0, .int .i64 0, .int .i64 0, .int .i64 0, .int .i64 0, .int .i64 0, .int .i64 0, .int .i64 0, .int .i64 0, .int .i64 0, .int .i64 0, .int .i64 0, .int .i64 0, .int .i64 0, .int .i64 0, .slice none 0 0, .int .i64 0] 25)) w1.heap.size (gtL exGt p1).toArray).heap.size := (by rw [setRow_size, World.size_alloc]; omega); have zF := hz21.out; simp only [Act.put, List.setIfInBounds_toArray, List.set_cons_zero, List.set_cons_succ]; clear hz21; generalize World.setRow _ _ _ = F at *; have c0 : F.cell? ⟨w1.heap.size, 0, none⟩ = some (.string exGt.name) := range_cell RF rfl)
  have RU := range_west RF
  have BW1 := B0.trans (hb1.mono B0.size)
  have BWF := BW1.trans (BF.mono BW1.size)
  have hU : Below w.heap.size w (F.setCell ⟨w1.heap.size, 0, none⟩ (.string ⟨#[119, 101, 115, 116]⟩)) := BWF.setCell (by show w.heap.size ≤ w1.heap.size; exact BW1.size) _
  have hXw : w.heap.size < w1.heap.size := Nat.lt_of_lt_of_le s0 hb1.size
  have g0 : ∀ j, (F.setCell ⟨w1.heap.size, 0, none⟩ (.string ⟨#[119, 101, 115, 116]⟩)).cell? ⟨w.heap.size, j, none⟩ = W1.cell? ⟨w.heap.size, j, none⟩ := fun j => (cs_o (.inl (by omega))).trans ((BF.cell (p := ⟨w.heap.size, j, none⟩) hXw).trans (hb1.cell (p := ⟨w.heap.size, j, none⟩) s0))
  have g1 : ∀ j, (F.setCell ⟨w1.heap.size, 0, none⟩ (.string ⟨#[119, 101, 115, 116]⟩)).frozen? ⟨w.heap.size, j, none⟩ = W1.frozen? ⟨w.heap.size, j, none⟩ := fun j => (by simp : _ = F.frozen? ⟨w.heap.size, j, none⟩).trans ((BF.frozen (p := ⟨w.heap.size, j, none⟩) hXw).trans (hb1.frozen (p := ⟨w.heap.size, j, none⟩) s0))
  replace y0 := (g0 0).trans y0
  replace y1 := (g0 1).trans y1
  replace f0 := fun o => (g1 o).trans (f0 o)
  have okU : GtOk (F.setCell ⟨w1.heap.size, 0, none⟩ (.string ⟨#[119, 101, 115, 116]⟩)) p1 exGt := by
    have e := HP1.out
    subst e
    exact gtOk_same hok1 (by have := BF.size; simpa using this) (fun q j hq => (cs_o (.inl (by omega))).trans (BF.cell (p := ⟨q, j, none⟩) (by show q < w1.heap.size; omega)))
  have sX : w1.heap.size < (F.setCell ⟨w1.heap.size, 0, none⟩ (.string ⟨#[119, 101, 115, 116]⟩)).heap.size := by simpa using sF
  have hab1' : w.heap.size < a1 ∧ w.heap.size < b1 := ⟨by omega, by omega⟩
  clear g0 g1 RF BF BWF BW1 B0 hb1 s0 sF zF c0 hok1 hab1
  generalize World.setCell F _ _ = U at *
  generalize w1.heap.size = X at *
  refine wp_region_noPanic ?_
  refine wp_region_held_drew (S := (fun w' => Below w.heap.size w w' ∧ w'.rangeAt X 0 (gtL exWest p1) ∧ (∃ v, w'.cell? ⟨w.heap.size, 0, none⟩ = some v) ∧ (∃ v, w'.cell? ⟨w.heap.size, 1, none⟩ = some v) ∧ (∀ o, w'.frozen? ⟨w.heap.size, o, none⟩ = false) ∧ X < w'.heap.size ∧ GtOk w' p1 exGt)) (by kernel_rfl) ?_ (fun hHeld => ?_)
  · exact ⟨hU.drew, fun j v hv => by simpa using RU j v hv, ⟨_, by simpa using y0⟩, ⟨_, by simpa using y1⟩, fun o => by simpa using f0 o, by simpa using sX, okU.later ((Below.refl _ _).drew) (Nat.le_refl _)⟩
  generalize World.drew _ = V0 at *
  have sV : X < V0.heap.size := hHeld.2.2.2.2.2.1
  refine wpAnyH_take (i := 1) (oi := { dst := _, op := _, type := _, pos := _, after := _, guard := _ }) (v := .agg (gtL exWest p1).toArray) rfl (by kernel_rfl) (by kernel_rfl) (by kernel_rfl) (fun _ _ _ h => h) (yieldsIf_load_mid (by rfl) 25 _ rfl X 0 rfl (gtL exWest p1) _ (fun _ hS => hS.2.1) Tryz.underlying25 rfl (by kernel_rfl)) (by assumption) ?_
  try simp only [Act.put, List.setIfInBounds_toArray, List.set_cons_zero, List.set_cons_succ]
  refine wpAnyH_take (i := 3) (oi := { dst := _, op := _, type := _, pos := _, after := _, guard := _ }) (v := ?_) rfl (by kernel_rfl) (by kernel_rfl) (by kernel_rfl) (fun _ _ _ h => h) (Or.inl ⟨by rfl, ?_⟩) (by assumption) ?_
  rotate_left
  · intro wS hSw; (try dsimp only at hSw); go_simp; try (with_reducible rfl)
  try simp only [Act.put, List.setIfInBounds_toArray, List.set_cons_zero, List.set_cons_succ]
  refine wpAnyH_ready (rs := [0, 4]) (by kernel_rfl) (by simp) ?_
  refine AllReadyH.cons (o := { dst := _, op := _, type := _, pos := _, after := _, guard := _ }) rfl (fun K hK => ?_) ?_
  · go_simp
    (go_at_call 43; (with_reducible refine (example_any _).mono ?_); rintro e V1 ⟨a2, b2, rfl, hok2, hab2, hbe⟩)
    try go_wp2_with fail
    refine hK.out _ _ ?_ (fun hHeld => ?_)
    · (try dsimp only); exact keepPr hXw hbe hHeld
    clear hK K
    try simp only [Act.put, List.setIfInBounds_toArray, List.set_cons_zero, List.set_cons_succ]
    obtain ⟨p2, hp2⟩ : ∃ p2 : GtP, p2 = ⟨some ⟨a2, 0, none⟩, 2, some ⟨b2, 0, none⟩, 3⟩ := ⟨_, rfl⟩
    rw [← hp2] at hok2 ⊢
    have HP2 := hid hp2
    clear hp2
    have sV1 := hbe.size
    refine wpAnyH_ready (rs := [2, 4]) (by kernel_rfl) (by simp) ?_
    refine AllReadyH.cons (o := { dst := _, op := _, type := _, pos := _, after := _, guard := _ }) rfl (fun K hK => ?_) ?_
    · rw [if_pos (by rfl)]
      apply wp_buildTwo (hr := run_two V1 p1 p2)
      exact rfl
      kernel_rfl
      try simp only [Act.put, List.setIfInBounds_toArray, List.set_cons_zero, List.set_cons_succ]
      refine hK.out _ _ ?_ (fun hHeld => ?_)
      · (try dsimp only); exact keepPr hXw ((Below.refl _ _).alloc (Nat.le_refl _) _) hHeld
      clear hK K
      try simp only [Act.put, List.setIfInBounds_toArray, List.set_cons_zero, List.set_cons_succ]
      have RG := hid (range_alloc V1 (gtL exGt p2 ++ gtL exWest p1) 25)
      refine wpAnyH_ready (rs := [4]) (by kernel_rfl) (by simp) ?_
      refine AllReadyH.cons (o := { dst := _, op := _, type := _, pos := _, after := _, guard := _ }) rfl (fun K hK => ?_) AllReadyH.nil
      go_simp
      refine hK.out _ _ ?_ (fun hHeld => ?_)
      · (try dsimp only); exact keepPr hXw ((Below.refl _ _).alloc (Nat.le_refl _) _) hHeld
      clear hK K
      try simp only [Act.put, List.setIfInBounds_toArray, List.set_cons_zero, List.set_cons_succ]
      have RR := hid (show World.rangeAt _ (V1.heap.size + 1) 0 _ from by have := range_alloc (V1.alloc (.cells (gtL exGt p2 ++ gtL exWest p1).toArray 25)) (ruL exRu) 123; rwa [World.size_alloc] at this)
      have HPf := hid (pair_fin (w := w) (V := ((V1.alloc (.cells (gtL exGt p2 ++ gtL exWest p1).toArray 25)).alloc (.cells #[.int .i64 1, .int .i64 0, .int .i64 1000, .int .i64 1000] 123))) (X := X) (gb := V1.heap.size) (rb := V1.heap.size + 1) (c := .slice (some ⟨V1.heap.size, 0, none⟩) 2 2) (d := .slice (some ⟨V1.heap.size + 1, 0, none⟩) 1 1) hHeld.1 hXw (range_later RG.out ((Below.refl _ _).alloc (Nat.le_refl _) _) (by simp)) RR.out (hok2.later (((Below.refl V1.heap.size V1).alloc (Nat.le_refl _) _).alloc (by simp) _) (Nat.le_refl _)) hHeld.2.2.2.2.2.2 HP1.out HP2.out hab1' ⟨by have h := hab2.1; (try simp only [World.size_alloc] at h); omega, by have h := hab2.1; (try simp only [World.size_alloc] at h); omega⟩ (by (try simp only [World.size_alloc]); omega) (by (try simp only [World.size_alloc]); omega) (by (try simp only [World.size_alloc]); omega) (by (try simp only [World.size_alloc]); omega))
      obtain ⟨V3, hV3⟩ : ∃ V3, V3 = ((V1.alloc (.cells (gtL exGt p2 ++ gtL exWest p1).toArray 25)).alloc (.cells #[.int .i64 1, .int .i64 0, .int .i64 1000, .int .i64 1000] 123)) := ⟨_, rfl⟩
      rw [← hV3] at hHeld HPf ⊢
      clear hV3 RG RR
      refine wpAnyH_take (i := 5) (oi := { dst := _, op := _, type := _, pos := _, after := _, guard := _ }) (v := ?_) rfl (by kernel_rfl) (by kernel_rfl) (by kernel_rfl) (fun _ _ _ h => h) (Or.inl ⟨by rfl, ?_⟩) (by assumption) ?_
      rotate_left
      · intro wS hSw; (try dsimp only at hSw); go_simp; try (with_reducible rfl)
      try simp only [Act.put, List.setIfInBounds_toArray, List.set_cons_zero, List.set_cons_succ]
      have E0 := hid hHeld.2.2.1
      have E1 := hid hHeld.2.2.2.1
      obtain ⟨-, -, ⟨p0, q0⟩, ⟨p1', q1⟩, g0, -, -⟩ := id hHeld
      refine wpAnyH_ready (rs := [6]) (by kernel_rfl) (by simp) ?_
      refine AllReadyH.cons (o := { dst := _, op := _, type := _, pos := _, after := _, guard := _ }) rfl (fun K hK => ?_) AllReadyH.nil
      go_simp
      refine hK.out _ _ ?_ (fun hHeld => ?_)
      · (try dsimp only); exact keepPrS hXw HP1.out hab1' hHeld
      clear hK K
      clear q0 q1 g0
      try simp only [Act.put, List.setIfInBounds_toArray, List.set_cons_zero, List.set_cons_succ]
      refine wpAnyH_done (by kernel_rfl) ?_ _
      refine NoPanic.normal ?_
      clear hHeld
      try clear hHeld
      have r0 : ((V3.setCell ⟨w.heap.size, 0, none⟩ (.slice (some ⟨V1.heap.size, 0, none⟩) 2 2)).setCell ⟨w.heap.size, 1, none⟩ (.slice (some ⟨V1.heap.size + 1, 0, none⟩) 1 1)).cell? ⟨w.heap.size, 0, none⟩ = some (.slice (some ⟨V1.heap.size, 0, none⟩) 2 2) := (cs_o (.inr (by omega))).trans (cs_s E0.out)
      have r1 : ((V3.setCell ⟨w.heap.size, 0, none⟩ (.slice (some ⟨V1.heap.size, 0, none⟩) 2 2)).setCell ⟨w.heap.size, 1, none⟩ (.slice (some ⟨V1.heap.size + 1, 0, none⟩) 1 1)).cell? ⟨w.heap.size, 1, none⟩ = some (.slice (some ⟨V1.heap.size + 1, 0, none⟩) 1 1) := cs_s (cell_ex E1.out)
      generalize World.setCell (World.setCell _ _ _) _ _ = G at *
      go_wp2_with fail
      exact bodyPost_ret (v := .agg #[.slice (some ⟨V1.heap.size, 0, none⟩) 2 2, .slice (some ⟨V1.heap.size + 1, 0, none⟩) 1 1]) (by simp [results, Tryz.results44, go_sem, r0, r1]) rfl ⟨_, rfl, rfl, rfl, HPf.out.1, HPf.out.2⟩
    refine AllReadyH.cons (o := { dst := _, op := _, type := _, pos := _, after := _, guard := _ }) rfl (fun K hK => ?_) AllReadyH.nil
    go_simp
    refine hK.out _ _ ?_ (fun hHeld => ?_)
    · (try dsimp only); exact keepPr hXw ((Below.refl _ _).alloc (Nat.le_refl _) _) hHeld
    clear hK K
    try simp only [Act.put, List.setIfInBounds_toArray, List.set_cons_zero, List.set_cons_succ]
    have RR := hid (range_alloc V1 (ruL exRu) 123)
    refine wpAnyH_ready (rs := [2]) (by kernel_rfl) (by simp) ?_
    refine AllReadyH.cons (o := { dst := _, op := _, type := _, pos := _, after := _, guard := _ }) rfl (fun K hK => ?_) AllReadyH.nil
    rw [if_pos (by rfl)]
    apply wp_buildTwo (hr := run_two (V1.alloc (.cells #[.int .i64 1, .int .i64 0, .int .i64 1000, .int .i64 1000] 123)) p1 p2)
    exact rfl
    kernel_rfl
    try simp only [Act.put, List.setIfInBounds_toArray, List.set_cons_zero, List.set_cons_succ]
    refine hK.out _ _ ?_ (fun hHeld => ?_)
    · (try dsimp only); exact keepPr hXw ((Below.refl _ _).alloc (Nat.le_refl _) _) hHeld
    clear hK K
    try simp only [Act.put, List.setIfInBounds_toArray, List.set_cons_zero, List.set_cons_succ]
    have RG := hid (show World.rangeAt _ (V1.heap.size + 1) 0 _ from by have := range_alloc (V1.alloc (.cells #[.int .i64 1, .int .i64 0, .int .i64 1000, .int .i64 1000] 123)) (gtL exGt p2 ++ gtL exWest p1) 25; rwa [World.size_alloc] at this)
    have HPf := hid (pair_fin (w := w) (V := ((V1.alloc (.cells #[.int .i64 1, .int .i64 0, .int .i64 1000, .int .i64 1000] 123)).alloc (.cells (gtL exGt p2 ++ gtL exWest p1).toArray 25))) (X := X) (gb := V1.heap.size + 1) (rb := V1.heap.size) (c := .slice (some ⟨V1.heap.size + 1, 0, none⟩) 2 2) (d := .slice (some ⟨V1.heap.size, 0, none⟩) 1 1) hHeld.1 hXw RG.out (range_later RR.out ((Below.refl _ _).alloc (Nat.le_refl _) _) (by simp)) (hok2.later (((Below.refl V1.heap.size V1).alloc (Nat.le_refl _) _).alloc (by simp) _) (Nat.le_refl _)) hHeld.2.2.2.2.2.2 HP1.out HP2.out hab1' ⟨by have h := hab2.1; (try simp only [World.size_alloc] at h); omega, by have h := hab2.1; (try simp only [World.size_alloc] at h); omega⟩ (by (try simp only [World.size_alloc]); omega) (by (try simp only [World.size_alloc]); omega) (by (try simp only [World.size_alloc]); omega) (by (try simp only [World.size_alloc]); omega))
    obtain ⟨V3, hV3⟩ : ∃ V3, V3 = ((V1.alloc (.cells #[.int .i64 1, .int .i64 0, .int .i64 1000, .int .i64 1000] 123)).alloc (.cells (gtL exGt p2 ++ gtL exWest p1).toArray 25)) := ⟨_, rfl⟩
    rw [← hV3] at hHeld HPf ⊢
    clear hV3 RG RR
    refine wpAnyH_take (i := 5) (oi := { dst := _, op := _, type := _, pos := _, after := _, guard := _ }) (v := ?_) rfl (by kernel_rfl) (by kernel_rfl) (by kernel_rfl) (fun _ _ _ h => h) (Or.inl ⟨by rfl, ?_⟩) (by assumption) ?_
    rotate_left
    · intro wS hSw; (try dsimp only at hSw); go_simp; try (with_reducible rfl)
    try simp only [Act.put, List.setIfInBounds_toArray, List.set_cons_zero, List.set_cons_succ]
    have E0 := hid hHeld.2.2.1
    have E1 := hid hHeld.2.2.2.1
    obtain ⟨-, -, ⟨p0, q0⟩, ⟨p1', q1⟩, g0, -, -⟩ := id hHeld
    refine wpAnyH_ready (rs := [6]) (by kernel_rfl) (by simp) ?_
    refine AllReadyH.cons (o := { dst := _, op := _, type := _, pos := _, after := _, guard := _ }) rfl (fun K hK => ?_) AllReadyH.nil
    go_simp
    refine hK.out _ _ ?_ (fun hHeld => ?_)
    · (try dsimp only); exact keepPrS hXw HP1.out hab1' hHeld
    clear hK K
    clear q0 q1 g0
    try simp only [Act.put, List.setIfInBounds_toArray, List.set_cons_zero, List.set_cons_succ]
    refine wpAnyH_done (by kernel_rfl) ?_ _
    refine NoPanic.normal ?_
    clear hHeld
    try clear hHeld
    have r0 : ((V3.setCell ⟨w.heap.size, 0, none⟩ (.slice (some ⟨V1.heap.size + 1, 0, none⟩) 2 2)).setCell ⟨w.heap.size, 1, none⟩ (.slice (some ⟨V1.heap.size, 0, none⟩) 1 1)).cell? ⟨w.heap.size, 0, none⟩ = some (.slice (some ⟨V1.heap.size + 1, 0, none⟩) 2 2) := (cs_o (.inr (by omega))).trans (cs_s E0.out)
    have r1 : ((V3.setCell ⟨w.heap.size, 0, none⟩ (.slice (some ⟨V1.heap.size + 1, 0, none⟩) 2 2)).setCell ⟨w.heap.size, 1, none⟩ (.slice (some ⟨V1.heap.size, 0, none⟩) 1 1)).cell? ⟨w.heap.size, 1, none⟩ = some (.slice (some ⟨V1.heap.size, 0, none⟩) 1 1) := cs_s (cell_ex E1.out)
    generalize World.setCell (World.setCell _ _ _) _ _ = G at *
    go_wp2_with fail
    exact bodyPost_ret (v := .agg #[.slice (some ⟨V1.heap.size + 1, 0, none⟩) 2 2, .slice (some ⟨V1.heap.size, 0, none⟩) 1 1]) (by simp [results, Tryz.results44, go_sem, r0, r1]) rfl ⟨_, rfl, rfl, rfl, HPf.out.1, HPf.out.2⟩
  refine AllReadyH.cons (o := { dst := _, op := _, type := _, pos := _, after := _, guard := _ }) rfl (fun K hK => ?_) AllReadyH.nil
  go_simp
  refine hK.out _ _ ?_ (fun hHeld => ?_)
  · (try dsimp only); exact keepPr hXw ((Below.refl _ _).alloc (Nat.le_refl _) _) hHeld
  clear hK K
  try simp only [Act.put, List.setIfInBounds_toArray, List.set_cons_zero, List.set_cons_succ]
  have RR := hid (range_alloc V0 (ruL exRu) 123)
  refine wpAnyH_ready (rs := [0]) (by kernel_rfl) (by simp) ?_
  refine AllReadyH.cons (o := { dst := _, op := _, type := _, pos := _, after := _, guard := _ }) rfl (fun K hK => ?_) AllReadyH.nil
  go_simp
  (go_at_call 43; (with_reducible refine (example_any _).mono ?_); rintro e V1 ⟨a2, b2, rfl, hok2, hab2, hbe⟩)
  try go_wp2_with fail
  refine hK.out _ _ ?_ (fun hHeld => ?_)
  · (try dsimp only); exact keepPr hXw hbe hHeld
  clear hK K
  try simp only [Act.put, List.setIfInBounds_toArray, List.set_cons_zero, List.set_cons_succ]
  obtain ⟨p2, hp2⟩ : ∃ p2 : GtP, p2 = ⟨some ⟨a2, 0, none⟩, 2, some ⟨b2, 0, none⟩, 3⟩ := ⟨_, rfl⟩
  rw [← hp2] at hok2 ⊢
  have HP2 := hid hp2
  clear hp2
  have sV1 := hbe.size
  simp only [World.size_alloc] at sV1
  refine wpAnyH_ready (rs := [2]) (by kernel_rfl) (by simp) ?_
  refine AllReadyH.cons (o := { dst := _, op := _, type := _, pos := _, after := _, guard := _ }) rfl (fun K hK => ?_) AllReadyH.nil
  rw [if_pos (by rfl)]
  apply wp_buildTwo (hr := run_two V1 p1 p2)
  exact rfl
  kernel_rfl
  try simp only [Act.put, List.setIfInBounds_toArray, List.set_cons_zero, List.set_cons_succ]
  refine hK.out _ _ ?_ (fun hHeld => ?_)
  · (try dsimp only); exact keepPr hXw ((Below.refl _ _).alloc (Nat.le_refl _) _) hHeld
  clear hK K
  try simp only [Act.put, List.setIfInBounds_toArray, List.set_cons_zero, List.set_cons_succ]
  have RG := hid (range_alloc V1 (gtL exGt p2 ++ gtL exWest p1) 25)
  have HPf := hid (pair_fin (w := w) (V := (V1.alloc (.cells (gtL exGt p2 ++ gtL exWest p1).toArray 25))) (X := X) (gb := V1.heap.size) (rb := V0.heap.size) (c := .slice (some ⟨V1.heap.size, 0, none⟩) 2 2) (d := .slice (some ⟨V0.heap.size, 0, none⟩) 1 1) hHeld.1 hXw RG.out (range_later (range_later RR.out hbe (by simp)) ((Below.refl _ _).alloc (Nat.le_refl _) _) (by omega)) (hok2.later ((Below.refl V1.heap.size V1).alloc (Nat.le_refl _) _) (Nat.le_refl _)) hHeld.2.2.2.2.2.2 HP1.out HP2.out hab1' ⟨by have h := hab2.1; (try simp only [World.size_alloc] at h); omega, by have h := hab2.1; (try simp only [World.size_alloc] at h); omega⟩ (by (try simp only [World.size_alloc]); omega) (by (try simp only [World.size_alloc]); omega) (by (try simp only [World.size_alloc]); omega) (by (try simp only [World.size_alloc]); omega))
  obtain ⟨V3, hV3⟩ : ∃ V3, V3 = (V1.alloc (.cells (gtL exGt p2 ++ gtL exWest p1).toArray 25)) := ⟨_, rfl⟩
  rw [← hV3] at hHeld HPf ⊢
  clear hV3 RG RR
  refine wpAnyH_take (i := 5) (oi := { dst := _, op := _, type := _, pos := _, after := _, guard := _ }) (v := ?_) rfl (by kernel_rfl) (by kernel_rfl) (by kernel_rfl) (fun _ _ _ h => h) (Or.inl ⟨by rfl, ?_⟩) (by assumption) ?_
  rotate_left
  · intro wS hSw; (try dsimp only at hSw); go_simp; try (with_reducible rfl)
  try simp only [Act.put, List.setIfInBounds_toArray, List.set_cons_zero, List.set_cons_succ]
  have E0 := hid hHeld.2.2.1
  have E1 := hid hHeld.2.2.2.1
  obtain ⟨-, -, ⟨p0, q0⟩, ⟨p1', q1⟩, g0, -, -⟩ := id hHeld
  refine wpAnyH_ready (rs := [6]) (by kernel_rfl) (by simp) ?_
  refine AllReadyH.cons (o := { dst := _, op := _, type := _, pos := _, after := _, guard := _ }) rfl (fun K hK => ?_) AllReadyH.nil
  go_simp
  refine hK.out _ _ ?_ (fun hHeld => ?_)
  · (try dsimp only); exact keepPrS hXw HP1.out hab1' hHeld
  clear hK K
  clear q0 q1 g0
  try simp only [Act.put, List.setIfInBounds_toArray, List.set_cons_zero, List.set_cons_succ]
  refine wpAnyH_done (by kernel_rfl) ?_ _
  refine NoPanic.normal ?_
  clear hHeld
  try clear hHeld
  have r0 : ((V3.setCell ⟨w.heap.size, 0, none⟩ (.slice (some ⟨V1.heap.size, 0, none⟩) 2 2)).setCell ⟨w.heap.size, 1, none⟩ (.slice (some ⟨V0.heap.size, 0, none⟩) 1 1)).cell? ⟨w.heap.size, 0, none⟩ = some (.slice (some ⟨V1.heap.size, 0, none⟩) 2 2) := (cs_o (.inr (by omega))).trans (cs_s E0.out)
  have r1 : ((V3.setCell ⟨w.heap.size, 0, none⟩ (.slice (some ⟨V1.heap.size, 0, none⟩) 2 2)).setCell ⟨w.heap.size, 1, none⟩ (.slice (some ⟨V0.heap.size, 0, none⟩) 1 1)).cell? ⟨w.heap.size, 1, none⟩ = some (.slice (some ⟨V0.heap.size, 0, none⟩) 1 1) := cs_s (cell_ex E1.out)
  generalize World.setCell (World.setCell _ _ _) _ _ = G at *
  go_wp2_with fail
  exact bodyPost_ret (v := .agg #[.slice (some ⟨V1.heap.size, 0, none⟩) 2 2, .slice (some ⟨V0.heap.size, 0, none⟩) 1 1]) (by simp [results, Tryz.results44, go_sem, r0, r1]) rfl ⟨_, rfl, rfl, rfl, HPf.out.1, HPf.out.2⟩

end Go.Proofs.YtdoklolinbmhpaaGreat

set_option linter.all false
namespace Go.Proofs.YtdoklolinbmhpaaGreat
open Go.RowKit

theorem zero_rows (V : World) : World.rangeAt (V.alloc (.cells #[.int .i64 0, .int .i64 0, .bool false, .int .i64 0, .int .i64 0, .bool false] 27)) V.heap.size 0 (stL ⟨0, 0, false⟩ ++ stL ⟨0, 0, false⟩) := fun j v hv => by
  rw [cell_of_row _ V.heap.size _ _ 27 (0, 0) (heap_alloc_new V _)]
  simpa [stL] using hv
theorem fallsEx (p : GtP) (w : World) (hok : GtOk w p exGt) : Calls Tryz.prog 42 #[.agg (gtL exGt p).toArray, .int .i64 9000, .int .i64 8000] w fun e w' => e = .returned (.tuple #[.int .i64 891, .int .i64 0]) ∧ Below w.heap.size w w' := by
  have := falls_any exGt p 9000 8000 w hok
  rwa [ex_falls] at this
theorem stepEx (p : GtP) (w : World) (hok : GtOk w p exGt) : Calls Tryz.prog 8 #[.agg (gtL exGt p).toArray, .agg #[.int .i64 100, .int .i64 100, .bool false], .agg #[.int .i64 2, .bool true, .int .i64 3000, .int .i64 1000]] w fun e w' => e = .returned (.tuple #[.agg #[.int .i64 75, .int .i64 105, .bool false], .agg #[.int .i64 0, .int .i64 (-25), .int .i64 25], .int .i64 0]) ∧ Below w.heap.size w w' := by
  have := stepFn_any exGt p ⟨100, 100, false⟩ ⟨2, true, 3000, 1000⟩ w hok
  rwa [ex_step] at this
theorem whereEx (p : GtP) (w : World) (hok : GtOk w p exGt) : Calls Tryz.prog 16 #[.agg (gtL exGt p).toArray, .slice none 0 0] w fun e w' => e = .returned (.tuple #[.agg #[.int .i64 0, .int .i64 0], .int .i64 2]) ∧ Below w.heap.size w w' :=
  whereShort_any exGt p none 0 0 w hok ex_check (by decide)
theorem delayEx (z : SetV) (hg : z.gs = [exGt, exWest]) (hr : z.rs = [exRu]) (b : Nat) (w : World) (hok : SetOk w z) (hb : b < w.heap.size) (hat : w.rangeAt b 0 (stL ⟨0, 0, false⟩ ++ stL ⟨0, 0, false⟩)) :
    Calls Tryz.prog 24 #[.agg #[.slice z.ga z.gs.length z.gc, .slice z.ra z.rs.length z.rc], .slice (some ⟨b, 0, none⟩) 2 2, .int .i64 3000, .int .i64 1000, .bool false] w fun e w' => e = .returned (.tuple #[.int .i64 5, .int .i64 0]) ∧ Below w.heap.size w w' := by
  obtain ⟨ga, gs, gc, ps, ra, rs, rc⟩ := z
  dsimp only at hg hr
  subst hg hr
  have := delayEq_any ga (some ⟨b, 0, none⟩) ra [exGt, exWest] [exRu] [⟨0, 0, false⟩, ⟨0, 0, false⟩] gc 2 rc 2 ps 3000 1000 false w rfl hok (.inr ⟨b, 0, rfl, hb, fun i hi j v hv => by
    have hj : j < 3 := by
      match i, hi with
      | 0, _ => exact (List.getElem?_eq_some_iff.1 hv).1
      | 1, _ => exact (List.getElem?_eq_some_iff.1 hv).1
    have h3 : j = 0 ∨ j = 1 ∨ j = 2 := by omega
    match i, hi with
    | 0, _ => rcases h3 with rfl | rfl | rfl
              · exact hat 0 v hv
              · exact hat 1 v hv
              · exact hat 2 v hv
    | 1, _ => rcases h3 with rfl | rfl | rfl
              · exact hat 3 v hv
              · exact hat 4 v hv
              · exact hat 5 v hv⟩) rfl
  rwa [ex_delay] at this
set_option maxRecDepth 100000 in
set_option maxHeartbeats 4000000 in
theorem awake_any (w : World) : Calls Tryz.prog 13 #[] w fun e w' => e = .returned (.bool true) ∧ Below w.heap.size w w' := by
  go_enter Tryz.func13, Tryz.ntmps13
  go_wp2_with fail
  refine (example_any _).mono ?_
  rintro e w1 ⟨a1, b1, rfl, hok, -, hb1⟩
  have HO := hid hok
  generalize (⟨some ⟨a1, 0, none⟩, 2, some ⟨b1, 0, none⟩, 3⟩ : GtP) = p1 at *
  clear hok
  go_wp2_with fail
  refine (fallsEx p1 _ HO.out).mono ?_
  rintro e w1' ⟨rfl, hb2⟩
  replace hb1 := hb1.trans (hb2.mono hb1.size)
  clear HO hb2
  go_wp2_with fail
  refine (example_any _).mono ?_
  rintro e w1 ⟨a1, b1, rfl, hok, -, hb2⟩
  replace hb1 := hb1.trans (hb2.mono hb1.size)
  have HO := hid hok
  generalize (⟨some ⟨a1, 0, none⟩, 2, some ⟨b1, 0, none⟩, 3⟩ : GtP) = p1 at *
  clear hok hb2
  go_wp2_with fail
  refine (stepEx p1 _ HO.out).mono ?_
  rintro e w1' ⟨rfl, hb2⟩
  replace hb1 := hb1.trans (hb2.mono hb1.size)
  clear HO hb2
  go_wp2_with fail
  have hU : Below w.heap.size w ((w1'.alloc (.cells #[.int .i64 75, .int .i64 105, .bool false] 27)).alloc (.cells #[.int .i64 0, .int .i64 (-25), .int .i64 25] 31)) := (hb1.alloc hb1.size _).alloc (by rw [World.size_alloc]; exact Nat.le_succ_of_le hb1.size) _
  have c0 : ((w1'.alloc (.cells #[.int .i64 75, .int .i64 105, .bool false] 27)).alloc (.cells #[.int .i64 0, .int .i64 (-25), .int .i64 25] 31)).cell? ⟨w1'.heap.size, 0, none⟩ = some (.int .i64 75) := by simp [go_sem]
  have c1 : ((w1'.alloc (.cells #[.int .i64 75, .int .i64 105, .bool false] 27)).alloc (.cells #[.int .i64 0, .int .i64 (-25), .int .i64 25] 31)).cell? ⟨w1'.heap.size, 1, none⟩ = some (.int .i64 105) := by simp [go_sem]
  have c2 : ((w1'.alloc (.cells #[.int .i64 75, .int .i64 105, .bool false] 27)).alloc (.cells #[.int .i64 0, .int .i64 (-25), .int .i64 25] 31)).cell? ⟨w1'.heap.size, 2, none⟩ = some (.bool false) := by simp [go_sem]
  have d0 : ((w1'.alloc (.cells #[.int .i64 75, .int .i64 105, .bool false] 27)).alloc (.cells #[.int .i64 0, .int .i64 (-25), .int .i64 25] 31)).cell? ⟨w1'.heap.size + 1, 0, none⟩ = some (.int .i64 0) := by simp [go_sem]
  have d1 : ((w1'.alloc (.cells #[.int .i64 75, .int .i64 105, .bool false] 27)).alloc (.cells #[.int .i64 0, .int .i64 (-25), .int .i64 25] 31)).cell? ⟨w1'.heap.size + 1, 1, none⟩ = some (.int .i64 (-25)) := by simp [go_sem]
  have d2 : ((w1'.alloc (.cells #[.int .i64 75, .int .i64 105, .bool false] 27)).alloc (.cells #[.int .i64 0, .int .i64 (-25), .int .i64 25] 31)).cell? ⟨w1'.heap.size + 1, 2, none⟩ = some (.int .i64 25) := by simp [go_sem]
  have lXs : w1'.heap.size < ((w1'.alloc (.cells #[.int .i64 75, .int .i64 105, .bool false] 27)).alloc (.cells #[.int .i64 0, .int .i64 (-25), .int .i64 25] 31)).heap.size := by simp <;> omega
  have lXm : w1'.heap.size + 1 < ((w1'.alloc (.cells #[.int .i64 75, .int .i64 105, .bool false] 27)).alloc (.cells #[.int .i64 0, .int .i64 (-25), .int .i64 25] 31)).heap.size := by simp
  clear hb1
  generalize World.alloc (World.alloc _ _) _ = w2 at *
  have hmk : ∀ W, (Instr.makeSlice 36 (.int .i64 2) (.int .i64 2)).run Tryz.prog W = .ok (.slice (some ⟨W.heap.size, 0, none⟩) 2 2) (W.alloc (.cells #[.int .i64 0, .int .i64 0, .bool false, .int .i64 0, .int .i64 0, .bool false] 27)) := fun _ => by kernel_rfl
  generalize w1'.heap.size + 1 = Xm at *
  generalize w1'.heap.size = Xs at *
  refine wp_region_noPanic ?_
  refine wp_region_held_drew (S := (fun w' => Below w2.heap.size w2 w')) (by kernel_rfl) ?_ (fun hHeld => ?_)
  · exact (Below.refl _ _).drew
  generalize World.drew _ = V0 at *
  refine wpAnyH_ready (rs := [0, 1]) (by kernel_rfl) (by simp) ?_
  refine AllReadyH.cons (o := { dst := _, op := _, type := _, pos := _, after := _, guard := _ }) rfl (fun K hK => ?_) ?_
  · go_simp
    (go_at_call 44; (with_reducible refine (pair_any _).mono ?_); rintro e V1 ⟨z, rfl, hzg, hzr, hzo, hbe⟩; have HZg := hid hzg; have HZr := hid hzr; clear hzg hzr)
    try go_wp2_with fail
    refine hK.out _ _ ?_ (fun hHeld => ?_)
    · (try dsimp only); exact hHeld.trans (hbe.mono hHeld.size)
    clear hK K
    try simp only [Act.put, List.setIfInBounds_toArray, List.set_cons_zero, List.set_cons_succ]
    refine wpAnyH_ready (rs := [1]) (by kernel_rfl) (by simp) ?_
    refine AllReadyH.cons (o := { dst := _, op := _, type := _, pos := _, after := _, guard := _ }) rfl (fun K hK => ?_) AllReadyH.nil
    go_simp
    refine hK.out _ _ ?_ (fun hHeld => ?_)
    · (try dsimp only); exact hHeld.trans (((Below.refl _ _).alloc (Nat.le_refl _) _).mono hHeld.size)
    clear hK K
    try simp only [Act.put, List.setIfInBounds_toArray, List.set_cons_zero, List.set_cons_succ]
    refine wpAnyH_ready (rs := [2]) (by kernel_rfl) (by simp) ?_
    refine AllReadyH.cons (o := { dst := _, op := _, type := _, pos := _, after := _, guard := _ }) rfl (fun K hK => ?_) AllReadyH.nil
    go_simp
    (go_at_call 24; (with_reducible refine (delayEx z HZg.out HZr.out V1.heap.size _ (hzo.later ((Below.refl _ _).alloc (Nat.le_refl _) _) (Nat.le_refl _)) (by simp) (zero_rows V1)).mono ?_); rintro e V3 ⟨rfl, hbe⟩)
    try go_wp2_with fail
    refine hK.out _ _ ?_ (fun hHeld => ?_)
    · (try dsimp only); exact hHeld.trans (hbe.mono hHeld.size)
    clear hK K
    try simp only [Act.put, List.setIfInBounds_toArray, List.set_cons_zero, List.set_cons_succ]
    refine wpAnyH_take (i := 3) (oi := { dst := _, op := _, type := _, pos := _, after := _, guard := _ }) (v := ?_) rfl (by kernel_rfl) (by kernel_rfl) (by kernel_rfl) (fun _ _ _ h => h) (Or.inl ⟨by rfl, ?_⟩) (by assumption) ?_
    rotate_left
    · intro wS hSw; (try dsimp only at hSw); go_simp; try (with_reducible rfl)
    try simp only [Act.put, List.setIfInBounds_toArray, List.set_cons_zero, List.set_cons_succ]
    refine wpAnyH_take (i := 4) (oi := { dst := _, op := _, type := _, pos := _, after := _, guard := _ }) (v := ?_) rfl (by kernel_rfl) (by kernel_rfl) (by kernel_rfl) (fun _ _ _ h => h) (Or.inl ⟨by rfl, ?_⟩) (by assumption) ?_
    rotate_left
    · intro wS hSw; (try dsimp only at hSw); go_simp; try (with_reducible rfl)
    try simp only [Act.put, List.setIfInBounds_toArray, List.set_cons_zero, List.set_cons_succ]
    refine wpAnyH_take (i := 5) (oi := { dst := _, op := _, type := _, pos := _, after := _, guard := _ }) (v := ?_) rfl (by kernel_rfl) (by kernel_rfl) (by kernel_rfl) (fun _ _ _ h => h) (Or.inl ⟨by rfl, ?_⟩) (by assumption) ?_
    rotate_left
    · intro wS hSw; (try dsimp only at hSw); go_simp; try (with_reducible rfl)
    try simp only [Act.put, List.setIfInBounds_toArray, List.set_cons_zero, List.set_cons_succ]
    refine wpAnyH_take (i := 6) (oi := { dst := _, op := _, type := _, pos := _, after := _, guard := _ }) (v := ?_) rfl (by kernel_rfl) (by kernel_rfl) (by kernel_rfl) (fun _ _ _ h => h) (Or.inl ⟨by rfl, ?_⟩) (by assumption) ?_
    rotate_left
    · intro wS hSw; (try dsimp only at hSw); go_simp; try (with_reducible rfl)
    try simp only [Act.put, List.setIfInBounds_toArray, List.set_cons_zero, List.set_cons_succ]
    refine wpAnyH_take (i := 7) (oi := { dst := _, op := _, type := _, pos := _, after := _, guard := _ }) (v := ?_) rfl (by kernel_rfl) (by kernel_rfl) (by kernel_rfl) (fun _ _ _ h => h) (Or.inl ⟨by rfl, ?_⟩) (by assumption) ?_
    rotate_left
    · intro wS hSw; (try dsimp only at hSw); go_simp; try (with_reducible rfl)
    try simp only [Act.put, List.setIfInBounds_toArray, List.set_cons_zero, List.set_cons_succ]
    clear hmk
    refine wpAnyH_done (by kernel_rfl) ?_ _
    refine NoPanic.normal ?_
    have HB3 := hid hHeld
    clear hHeld
    generalize V3 = W3 at *
    go_wp2_with fail
    refine (example_any _).mono ?_
    rintro e w4 ⟨a1, b1, rfl, hok, -, hb4⟩
    have HO := hid hok
    generalize (⟨some ⟨a1, 0, none⟩, 2, some ⟨b1, 0, none⟩, 3⟩ : GtP) = p4 at *
    clear hok
    go_wp2_with fail
    refine (whereEx p4 _ HO.out).mono ?_
    rintro e w5 ⟨rfl, hb5⟩
    clear HO
    have B5 := HB3.out.trans ((hb4.mono HB3.out.size).trans (hb5.mono (Nat.le_trans HB3.out.size hb4.size)))
    replace c0 := (B5.cell (p := ⟨Xs, 0, none⟩) lXs).trans c0
    replace c1 := (B5.cell (p := ⟨Xs, 1, none⟩) lXs).trans c1
    replace c2 := (B5.cell (p := ⟨Xs, 2, none⟩) lXs).trans c2
    replace d0 := (B5.cell (p := ⟨Xm, 0, none⟩) lXm).trans d0
    replace d1 := (B5.cell (p := ⟨Xm, 1, none⟩) lXm).trans d1
    replace d2 := (B5.cell (p := ⟨Xm, 2, none⟩) lXm).trans d2
    have lXs5 := Nat.lt_of_lt_of_le lXs B5.size
    have lXm5 := Nat.lt_of_lt_of_le lXm B5.size
    have BW := hU.trans (B5.mono hU.size)
    clear B5 hb4 hb5
    go_wp2_with fail
    go_ret
    exact ⟨rfl, BW.alloc BW.size _⟩
  refine AllReadyH.cons (o := { dst := _, op := _, type := _, pos := _, after := _, guard := _ }) rfl (fun K hK => ?_) AllReadyH.nil
  go_simp
  refine hK.out _ _ ?_ (fun hHeld => ?_)
  · (try dsimp only); exact hHeld.trans (((Below.refl _ _).alloc (Nat.le_refl _) _).mono hHeld.size)
  clear hK K
  try simp only [Act.put, List.setIfInBounds_toArray, List.set_cons_zero, List.set_cons_succ]
  refine wpAnyH_ready (rs := [0]) (by kernel_rfl) (by simp) ?_
  refine AllReadyH.cons (o := { dst := _, op := _, type := _, pos := _, after := _, guard := _ }) rfl (fun K hK => ?_) AllReadyH.nil
  go_simp
  (go_at_call 44; (with_reducible refine (pair_any _).mono ?_); rintro e V1 ⟨z, rfl, hzg, hzr, hzo, hbe⟩; have HZg := hid hzg; have HZr := hid hzr; clear hzg hzr)
  have HbeP := hid hbe
  try go_wp2_with fail
  refine hK.out _ _ ?_ (fun hHeld => ?_)
  · (try dsimp only); exact hHeld.trans (hbe.mono hHeld.size)
  clear hK K
  try simp only [Act.put, List.setIfInBounds_toArray, List.set_cons_zero, List.set_cons_succ]
  refine wpAnyH_ready (rs := [2]) (by kernel_rfl) (by simp) ?_
  refine AllReadyH.cons (o := { dst := _, op := _, type := _, pos := _, after := _, guard := _ }) rfl (fun K hK => ?_) AllReadyH.nil
  go_simp
  (go_at_call 24; (with_reducible refine (delayEx z HZg.out HZr.out V0.heap.size _ hzo (Nat.lt_of_lt_of_le (by simp) HbeP.out.size) (range_later (range_alloc V0 (stL ⟨0, 0, false⟩ ++ stL ⟨0, 0, false⟩) 27) HbeP.out (by simp))).mono ?_); rintro e V3 ⟨rfl, hbe⟩)
  try go_wp2_with fail
  refine hK.out _ _ ?_ (fun hHeld => ?_)
  · (try dsimp only); exact hHeld.trans (hbe.mono hHeld.size)
  clear hK K
  try simp only [Act.put, List.setIfInBounds_toArray, List.set_cons_zero, List.set_cons_succ]
  refine wpAnyH_take (i := 3) (oi := { dst := _, op := _, type := _, pos := _, after := _, guard := _ }) (v := ?_) rfl (by kernel_rfl) (by kernel_rfl) (by kernel_rfl) (fun _ _ _ h => h) (Or.inl ⟨by rfl, ?_⟩) (by assumption) ?_
  rotate_left
  · intro wS hSw; (try dsimp only at hSw); go_simp; try (with_reducible rfl)
  try simp only [Act.put, List.setIfInBounds_toArray, List.set_cons_zero, List.set_cons_succ]
  refine wpAnyH_take (i := 4) (oi := { dst := _, op := _, type := _, pos := _, after := _, guard := _ }) (v := ?_) rfl (by kernel_rfl) (by kernel_rfl) (by kernel_rfl) (fun _ _ _ h => h) (Or.inl ⟨by rfl, ?_⟩) (by assumption) ?_
  rotate_left
  · intro wS hSw; (try dsimp only at hSw); go_simp; try (with_reducible rfl)
  try simp only [Act.put, List.setIfInBounds_toArray, List.set_cons_zero, List.set_cons_succ]
  refine wpAnyH_take (i := 5) (oi := { dst := _, op := _, type := _, pos := _, after := _, guard := _ }) (v := ?_) rfl (by kernel_rfl) (by kernel_rfl) (by kernel_rfl) (fun _ _ _ h => h) (Or.inl ⟨by rfl, ?_⟩) (by assumption) ?_
  rotate_left
  · intro wS hSw; (try dsimp only at hSw); go_simp; try (with_reducible rfl)
  try simp only [Act.put, List.setIfInBounds_toArray, List.set_cons_zero, List.set_cons_succ]
  refine wpAnyH_take (i := 6) (oi := { dst := _, op := _, type := _, pos := _, after := _, guard := _ }) (v := ?_) rfl (by kernel_rfl) (by kernel_rfl) (by kernel_rfl) (fun _ _ _ h => h) (Or.inl ⟨by rfl, ?_⟩) (by assumption) ?_
  rotate_left
  · intro wS hSw; (try dsimp only at hSw); go_simp; try (with_reducible rfl)
  try simp only [Act.put, List.setIfInBounds_toArray, List.set_cons_zero, List.set_cons_succ]
  refine wpAnyH_take (i := 7) (oi := { dst := _, op := _, type := _, pos := _, after := _, guard := _ }) (v := ?_) rfl (by kernel_rfl) (by kernel_rfl) (by kernel_rfl) (fun _ _ _ h => h) (Or.inl ⟨by rfl, ?_⟩) (by assumption) ?_
  rotate_left
  · intro wS hSw; (try dsimp only at hSw); go_simp; try (with_reducible rfl)
  try simp only [Act.put, List.setIfInBounds_toArray, List.set_cons_zero, List.set_cons_succ]
  clear hmk
  refine wpAnyH_done (by kernel_rfl) ?_ _
  refine NoPanic.normal ?_
  have HB3 := hid hHeld
  clear hHeld
  generalize V3 = W3 at *
  go_wp2_with fail
  refine (example_any _).mono ?_
  rintro e w4 ⟨a1, b1, rfl, hok, -, hb4⟩
  have HO := hid hok
  generalize (⟨some ⟨a1, 0, none⟩, 2, some ⟨b1, 0, none⟩, 3⟩ : GtP) = p4 at *
  clear hok
  go_wp2_with fail
  refine (whereEx p4 _ HO.out).mono ?_
  rintro e w5 ⟨rfl, hb5⟩
  clear HO
  have B5 := HB3.out.trans ((hb4.mono HB3.out.size).trans (hb5.mono (Nat.le_trans HB3.out.size hb4.size)))
  replace c0 := (B5.cell (p := ⟨Xs, 0, none⟩) lXs).trans c0
  replace c1 := (B5.cell (p := ⟨Xs, 1, none⟩) lXs).trans c1
  replace c2 := (B5.cell (p := ⟨Xs, 2, none⟩) lXs).trans c2
  replace d0 := (B5.cell (p := ⟨Xm, 0, none⟩) lXm).trans d0
  replace d1 := (B5.cell (p := ⟨Xm, 1, none⟩) lXm).trans d1
  replace d2 := (B5.cell (p := ⟨Xm, 2, none⟩) lXm).trans d2
  have lXs5 := Nat.lt_of_lt_of_le lXs B5.size
  have lXm5 := Nat.lt_of_lt_of_le lXm B5.size
  have BW := hU.trans (B5.mono hU.size)
  clear B5 hb4 hb5
  go_wp2_with fail
  go_ret
  exact ⟨rfl, BW.alloc BW.size _⟩
end Go.Proofs.YtdoklolinbmhpaaGreat
