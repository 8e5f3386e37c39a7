/- Gate, part WA: what stands. -/
import Derived.Test.YtdoklolinbmhpaaGreatVL
import Derived.Deep.MidRow
set_option linter.all false
namespace Go.Proofs.YtdoklolinbmhpaaGreat
open Go.RowKit

theorem wpList_builtC {P : Program} {ops : Array Oper} {rest : List Oper} {o : Oper} {a : Act} {w : World} {Q : Exit → Act → World → Prop} (hg : o.guard = none) (t : TypeId) (parts : Array (Nat × Operand)) (ho : o.op = .build t parts)
    {vs : List (Nat × Value)} {cells : Array Value} (hb : P.built t vs = some cells) (hvs : (parts.map fun (i, x) => (i, a.eval x)).toList = vs)
    (h : wpList P ops Q rest (a.put o.dst (.agg cells)) w) : wpList P ops Q (o :: rest) a w :=
  by
    refine wpList_build hg t parts ho (by rw [hvs, hb]; rfl) ?_
    rw [hvs, hb]
    exact h
theorem built_machine (g : Gt) (p : GtP) (s : St) (t : Sp) : Tryz.prog.built 74 [(0, .agg (gtL g p).toArray), (1, .agg #[.int .i64 s.pos, .int .i64 s.charge, .bool s.bolted]), (2, .agg #[.int .i64 t.order, .bool t.power, .int .i64 t.outer, .int .i64 t.inner])] = some (mL g p s t).toArray := by kernel_rfl
theorem mL_one (g : Gt) (p : GtP) (s : St) (t : Sp) : (mL g p s t).toArray.all (·.oneCell') = true :=
  have h : (mL g p s t).all (·.oneCell') = true := rfl
  all_oneCell_toArray fun v hv => List.all_eq_true.1 h v hv
theorem range_setRow {W : World} {b : Nat} {old : Array Value} {cs : List Value} {T : TypeId} (h : W.heap[b]? = some (.cells old T (0, 0))) : (W.setRow b cs.toArray).rangeAt b 0 cs := fun j v hv => by
  rw [cell_setRow_same _ _ _ _ _ _ _ h]; simpa using hv
theorem below_setRow {B : Nat} {w W : World} {b : Nat} {cs : Array Value} (h : Below B w W) (hb : B ≤ b) : Below B w (W.setRow b cs) :=
  ⟨h.os, h.tape, h.output, by simpa using h.size, fun k hk => by rw [setRow_other _ _ _ _ (by omega)]; exact h.block k hk⟩

set_option maxRecDepth 100000 in
set_option maxHeartbeats 1000000 in
theorem standing_any (g : Gt) (p : GtP) (pos o i : Int) (w : World) :
    Calls Tryz.prog 76 #[.agg (gtL g p).toArray, .int .i64 pos, .int .i64 o, .int .i64 i] w fun e w' => e = .returned (.agg (mL g p ⟨pos, 0, false⟩ ⟨0, false, o, i⟩).toArray) ∧ Below w.heap.size w w' := by
  go_enter Tryz.func76, Tryz.ntmps76
  have R := range_later (range_alloc w (gtL g p) 25) ((Below.refl _ _).alloc (Nat.le_refl _) (.cells #[.string ⟨#[]⟩, .int .i64 0, .int .i64 0, .slice none 0 0, .int .i64 0, .int .i64 0, .int .i64 0, .int .i64 0, .int .i64 0, .int .i64 0, .int .i64 0, .int .i64 0, .int .i64 0, .int .i64 0, .int .i64 0, .int .i64 0, .int .i64 0, .int .i64 0, .int .i64 0, .slice none 0 0, .int .i64 0, .int .i64 0, .int .i64 0, .bool false, .int .i64 0, .bool false, .int .i64 0, .int .i64 0] 74)) (by simp)
  have hg : ((w.alloc (.cells (gtL g p).toArray 25)).alloc (.cells #[.string ⟨#[]⟩, .int .i64 0, .int .i64 0, .slice none 0 0, .int .i64 0, .int .i64 0, .int .i64 0, .int .i64 0, .int .i64 0, .int .i64 0, .int .i64 0, .int .i64 0, .int .i64 0, .int .i64 0, .int .i64 0, .int .i64 0, .int .i64 0, .int .i64 0, .int .i64 0, .slice none 0 0, .int .i64 0, .int .i64 0, .int .i64 0, .bool false, .int .i64 0, .bool false, .int .i64 0, .int .i64 0] 74)).heap[w.heap.size + 1]? = some (.cells #[.string ⟨#[]⟩, .int .i64 0, .int .i64 0, .slice none 0 0, .int .i64 0, .int .i64 0, .int .i64 0, .int .i64 0, .int .i64 0, .int .i64 0, .int .i64 0, .int .i64 0, .int .i64 0, .int .i64 0, .int .i64 0, .int .i64 0, .int .i64 0, .int .i64 0, .int .i64 0, .slice none 0 0, .int .i64 0, .int .i64 0, .int .i64 0, .bool false, .int .i64 0, .bool false, .int .i64 0, .int .i64 0] 74 (0, 0)) := by
    have := heap_alloc_new (w.alloc (.cells (gtL g p).toArray 25)) (.cells #[.string ⟨#[]⟩, .int .i64 0, .int .i64 0, .slice none 0 0, .int .i64 0, .int .i64 0, .int .i64 0, .int .i64 0, .int .i64 0, .int .i64 0, .int .i64 0, .int .i64 0, .int .i64 0, .int .i64 0, .int .i64 0, .int .i64 0, .int .i64 0, .int .i64 0, .int .i64 0, .slice none 0 0, .int .i64 0, .int .i64 0, .int .i64 0, .bool false, .int .i64 0, .bool false, .int .i64 0, .int .i64 0] 74)
    simpa using this
  have HG := hid hg
  have HB := hid (((Below.refl w.heap.size w).alloc (Nat.le_refl _) (.cells (gtL g p).toArray 25)).alloc (by simp) (.cells #[.string ⟨#[]⟩, .int .i64 0, .int .i64 0, .slice none 0 0, .int .i64 0, .int .i64 0, .int .i64 0, .int .i64 0, .int .i64 0, .int .i64 0, .int .i64 0, .int .i64 0, .int .i64 0, .int .i64 0, .int .i64 0, .int .i64 0, .int .i64 0, .int .i64 0, .int .i64 0, .slice none 0 0, .int .i64 0, .int .i64 0, .int .i64 0, .bool false, .int .i64 0, .bool false, .int .i64 0, .int .i64 0] 74))
  clear hg
  go_wp2_with (first | (refine wpList_load_mid rfl 25 _ rfl _ 0 rfl (gtL g p) _ R Tryz.underlying25 rfl (by kernel_rfl) ?_) | (apply wpList_builtC (hb := built_machine g p ⟨pos, 0, false⟩ ⟨0, false, o, i⟩); exact rfl; exact rfl; kernel_rfl) | (apply wpList_store_row (hg := HG.out) (h1 := mL_one g p ⟨pos, 0, false⟩ ⟨0, false, o, i⟩); exact rfl; exact rfl; exact rfl; exact rfl; kernel_rfl; exact rfl))
  have hrow := range_setRow (cs := mL g p ⟨pos, 0, false⟩ ⟨0, false, o, i⟩) HG.out
  have hB := below_setRow (cs := (mL g p ⟨pos, 0, false⟩ ⟨0, false, o, i⟩).toArray) HB.out (show w.heap.size ≤ w.heap.size + 1 by omega)
  have hset := setRow_heap _ _ _ (mL g p ⟨pos, 0, false⟩ ⟨0, false, o, i⟩).toArray _ _ HG.out
  generalize World.setRow _ _ _ = F at *
  exact bodyPost_ret (v := .agg (mL g p ⟨pos, 0, false⟩ ⟨0, false, o, i⟩).toArray) (results_cell_row Tryz.results76 _ F (w.heap.size + 1) _ _ _ _ rfl hset Tryz.underlying74 rfl (by kernel_rfl)) rfl ⟨rfl, hB⟩
end Go.Proofs.YtdoklolinbmhpaaGreat
