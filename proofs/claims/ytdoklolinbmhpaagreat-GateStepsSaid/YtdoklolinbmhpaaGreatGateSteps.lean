/-
  For any gate, state and steps GateSteps returns true: Step and Run return what the reference returns.
-/
import Derived.Test.YtdoklolinbmhpaaGreatRows
import Derived.Test.YtdoklolinbmhpaaGreatLD
import Derived.Test.YtdoklolinbmhpaaGreatWS
set_option linter.all false
namespace Go.Proofs.YtdoklolinbmhpaaGreat
open Go.ChangeShapes Go.WideShapes Go.ChangeAt Go.RowKit

set_option maxRecDepth 100000 in
theorem gateSteps_lifted (os : Os) (started : os.Started) (H : Type) (enc : TypeId × Value → H) :
    ReturnsInHanded {} Tryz.checked os 3 .any (Rows.gateStepsSpec.pre6 enc Tryz.prog Tryz.f3 Rows.gateStepsRow.domain false) (Rows.gateStepsSpec.post enc Tryz.prog Tryz.f3 false true false false) := by
  refine returnsInHanded_of_change_sized (C := Tryz.checked) Tryz.own started (by kernel_rfl) Tryz.func3
    (ChangeSpec.witness6 (enc := enc) (C := Tryz.checked) false ⟨#[], #[.agg #[.string ⟨#[]⟩, .int .i64 0, .int .i64 0, .slice none 0 0, .int .i64 0, .int .i64 0, .int .i64 0, .int .i64 0, .int .i64 0, .int .i64 0, .int .i64 0, .int .i64 0, .int .i64 0, .int .i64 0, .int .i64 0, .int .i64 0, .int .i64 0, .int .i64 0, .int .i64 0, .slice none 0 0, .int .i64 0], .agg #[.int .i64 0, .int .i64 0, .bool false], .slice none 0 0], []⟩ 8 (by kernel_rfl) (by kernel_rfl) (by kernel_rfl) (by kernel_rfl)) ?_
  intro W base args ds gs before hval0 hW hcnd hsz0 _
  have hval : ∀ (j : Nat) t v, Tryz.f3.params[j]? = some t → args[j]? = some v → Value.okWide Tryz.prog W .any base t v := hval0
  have hW' := hW
  obtain ⟨p, q, hA0, hV, rfl, hfz, hnd⟩ := hW
  have hA : DataW.TrodAll enc Tryz.prog W 0 (fun _ => true) true Tryz.f3.params.toList args.toList ds p := hA0
  have hsz : (DataW.weightsEach Tryz.prog (Tryz.f3.params.toList ++ Rows.gateStepsSpec.plain.varTypes Tryz.prog) (ds ++ gs)).all (· ≤ reachBytes) = true := hsz0
  rw [Tryz.params3] at hA hval hsz
  obtain ⟨v0, v1, v2, d0, d1, d2, p0, p1, p2, rfl, rfl, rfl, h0, h1, h2⟩ := trodAll_three hA
  obtain ⟨rfl, rfl⟩ := trodVars_none hV
  clear hA0 hval0 hsz0
  simp only [List.append_nil] at hW'
  have hlt : ∀ x ∈ p0 ++ p1 ++ p2, x.block < W.heap.size := fun x hx => by simpa using hW'.lt x hx
  have hb0 : ∀ W', Below W.heap.size W W' → DataW.Trod enc Tryz.prog W' 0 (fun b => decide (b < W.heap.size)) true 25 v0 d0 p0 :=
    fun W' hn => Below.trod Tryz.laidOut (by kernel_rfl) (of_decide_eq_true (by kernel_rfl)) h0 hn (fun x hx => hlt x (List.mem_append_left _ (List.mem_append_left _ hx)))
  have hb1 : ∀ W', Below W.heap.size W W' → DataW.Trod enc Tryz.prog W' 0 (fun b => decide (b < W.heap.size)) true 27 v1 d1 p1 :=
    fun W' hn => Below.trod Tryz.laidOut (by kernel_rfl) (of_decide_eq_true (by kernel_rfl)) h1 hn (fun x hx => hlt x (List.mem_append_left _ (List.mem_append_right _ hx)))
  have hb2 : ∀ W', Below W.heap.size W W' → DataW.Trod enc Tryz.prog W' 0 (fun b => decide (b < W.heap.size)) true 28 v2 d2 p2 :=
    fun W' hn => Below.trod Tryz.laidOut (by kernel_rfl) (of_decide_eq_true (by kernel_rfl)) h2 hn (fun x hx => hlt x (List.mem_append_right _ hx))
  have hres : ∀ W' : World, DataW.TrodAll enc Tryz.prog W' W.heap.size (fun _ => false) false [4] [.bool true] [.lit (.bool true)] [] := fun W' => trodAll_mk1 (shut_bool Tryz.underlying4 _)
  obtain ⟨cs0, rfl, _⟩ := okWide_struct Tryz.underlying25 (hval 0 25 v0 rfl rfl)
  obtain ⟨cs1, rfl, _⟩ := okWide_struct Tryz.underlying27 (hval 1 27 v1 rfl rfl)
  obtain ⟨sa2, sl2, sc2, rfl⟩ := okWide_slice Tryz.underlying28 (hval 2 28 v2 rfl rfl)
  have h0' := h0
  have h1' := h1
  have h2' := h2
  obtain ⟨f0, h0'⟩ := h0'
  obtain ⟨f1, h1'⟩ := h1'
  obtain ⟨f2, h2'⟩ := h2'
  simp only [Value.cells] at h0' h1' h2'
  obtain ⟨g0, gp0, e0, hok0⟩ := gt_of_trod h0' (fun n hn => by
      have := List.all_eq_true.1 hsz n (DataW.weights_mem_each (j := 0) (t := 25) (d := d0) rfl rfl n hn)
      simpa using this) (fun x hx => hlt x (List.mem_append_left _ (List.mem_append_left _ hx)))
  have E0 : cs0 = (gtL g0 gp0).toArray := by rw [← Array.toList_inj, e0] <;> rfl
  subst E0
  obtain ⟨s1, e1, hs1⟩ := st_of_trod h1' (fun n hn => by
      have := List.all_eq_true.1 hsz n (DataW.weights_mem_each (j := 1) (t := 27) (d := d1) rfl rfl n hn)
      simpa using this) (fun x hx => hlt x (List.mem_append_left _ (List.mem_append_right _ hx)))
  have E1 : cs1 = #[.int .i64 s1.pos, .int .i64 s1.charge, .bool s1.bolted] := by rw [← Array.toList_inj, e1] <;> rfl
  subst E1
  obtain ⟨ga2, gs2, gc2, e2, hll2, hok2⟩ := sprow_of_trod h2' (fun n hn => by
      have := List.all_eq_true.1 hsz n (DataW.weights_mem_each (j := 2) (t := 28) (d := d2) rfl rfl n hn)
      simpa using this) (fun x hx => hlt x (List.mem_append_right _ hx))
  have E2 : (Value.slice sa2 sl2 sc2) = .slice ga2 gs2.length gc2 := by simpa using e2
  injection E2 with q1 q2 q3
  subst q1 q2 q3
  refine (lawSteps_any g0 gp0 s1 sa2 gs2 sc2 gs2.length W rfl hll2.2.1 hok0 hok2).mono fun e W' ⟨he, hn⟩ => ?_
  subst he
  exact ⟨_, rfl, ⟨_, _, _, [], _, [], hW', hres W', trodAll_mk3 (hb0 W' hn) (hb1 W' hn) (hb2 W' hn), rfl, hn.frame _, fun h => by cases h⟩⟩

theorem gateSteps_holds : Rows.GateStepsSaid :=
  OpenClaim.holds_of_wide 3 Tryz.f3 rfl rfl rfl rfl rfl rfl rfl ⟨rfl, rfl, rfl, rfl, rfl⟩ rfl rfl rfl rfl rfl (by kernel_rfl) Tryz.func3 (by kernel_rfl)
    (of_decide_eq_true (by kernel_rfl)) (by unfold Func.isWrapper; rw [if_neg (of_decide_eq_false (by kernel_rfl))]; exact ⟨rfl, rfl⟩)
    (fun os started H enc _ => gateSteps_lifted os started H enc)
#print axioms gateSteps_holds
end Go.Proofs.YtdoklolinbmhpaaGreat
