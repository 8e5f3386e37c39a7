/-
  GateLatest (P3.15): without rules Delay is the greatest Time of the gates, in ticks, rounded up: the law returns true for every set, states, levels, and with power or without. PROVED.
-/
import Derived.Test.YtpgggffcpcjahaaRows
import Derived.Test.YtpgggffcpcjahaaLX
import Derived.Test.YtpgggffcpcjahaaWY
set_option linter.all false
namespace Go.Proofs.Ytpgggffcpcjahaa
open Go.ChangeShapes Go.WideShapes Go.ChangeAt Go.RowKit

set_option maxRecDepth 100000 in
set_option maxHeartbeats 4000000 in
theorem gateLatest_lifted (os : Os) (started : os.Started) (H : Type) (enc : TypeId × Value → H) :
    ReturnsInHanded {} Try.checked os 13 .any (Rows.gateLatestSpec.pre6 enc Try.prog Try.f13 Rows.gateLatestRow.domain false) (Rows.gateLatestSpec.post enc Try.prog Try.f13 false true false false) := by
  refine returnsInHanded_of_change_sized (C := Try.checked) Try.own started (by kernel_rfl) Try.func13
    (ChangeSpec.witness6 (enc := enc) (C := Try.checked) false ⟨#[], #[.agg #[.slice none 0 0, .slice none 0 0], .slice none 0 0, .agg #[.int .i64 0, .int .i64 0, .bool false]], []⟩ 8 (by kernel_rfl) (by kernel_rfl) (by kernel_rfl) (by kernel_rfl)) ?_
  intro W base args ds gs before hval0 hW hcnd hsz0 _
  have hval : ∀ (j : Nat) t v, Try.f13.params[j]? = some t → args[j]? = some v → Value.okWide Try.prog W .any base t v := hval0
  have hW' := hW
  obtain ⟨p, q, hA0, hV, rfl, hfz, hnd⟩ := hW
  have hA : DataW.TrodAll enc Try.prog W 0 (fun _ => true) true Try.f13.params.toList args.toList ds p := hA0
  have hsz : (DataW.weightsEach Try.prog (Try.f13.params.toList ++ Rows.gateLatestSpec.plain.varTypes Try.prog) (ds ++ gs)).all (· ≤ reachBytes) = true := hsz0
  rw [Try.params13] at hA hval hsz
  obtain ⟨v0, v1, v2, d0, d1, d2, p0, p1, p2, rfl, rfl, rfl, h0, h1, h2⟩ := trodAll_three hA
  obtain ⟨rfl, rfl⟩ := trodVars_none hV
  clear hA0 hval0 hsz0
  simp only [List.append_nil] at hW'
  have hlt : ∀ x ∈ p0 ++ p1 ++ p2, x.block < W.heap.size := fun x hx => by simpa using hW'.lt x hx
  have hb0 : ∀ W', Below W.heap.size W W' → DataW.Trod enc Try.prog W' 0 (fun b => decide (b < W.heap.size)) true 25 v0 d0 p0 :=
    fun W' hn => Below.trod Try.laidOut (by kernel_rfl) (of_decide_eq_true (by kernel_rfl)) h0 hn (fun x hx => hlt x (List.mem_append_left _ (List.mem_append_left _ hx)))
  have hb1 : ∀ W', Below W.heap.size W W' → DataW.Trod enc Try.prog W' 0 (fun b => decide (b < W.heap.size)) true 58 v1 d1 p1 :=
    fun W' hn => Below.trod Try.laidOut (by kernel_rfl) (of_decide_eq_true (by kernel_rfl)) h1 hn (fun x hx => hlt x (List.mem_append_left _ (List.mem_append_right _ hx)))
  have hb2 : ∀ W', Below W.heap.size W W' → DataW.Trod enc Try.prog W' 0 (fun b => decide (b < W.heap.size)) true 69 v2 d2 p2 :=
    fun W' hn => Below.trod Try.laidOut (by kernel_rfl) (of_decide_eq_true (by kernel_rfl)) h2 hn (fun x hx => hlt x (List.mem_append_right _ hx))
  have hres : ∀ W' : World, DataW.TrodAll enc Try.prog W' W.heap.size (fun _ => false) false [4] [.bool true] [.lit (.bool true)] [] := fun W' => trodAll_mk1 (shut_bool Try.underlying4 _)
  obtain ⟨cs0, rfl, _⟩ := okWide_struct Try.underlying25 (hval 0 25 v0 rfl rfl)
  obtain ⟨sa1, sl1, sc1, rfl⟩ := okWide_slice Try.underlying58 (hval 1 58 v1 rfl rfl)
  obtain ⟨cs2, rfl, _⟩ := okWide_struct Try.underlying69 (hval 2 69 v2 rfl rfl)
  have h0' := h0
  have h1' := h1
  have h2' := h2
  obtain ⟨f0, h0'⟩ := h0'
  obtain ⟨f1, h1'⟩ := h1'
  obtain ⟨f2, h2'⟩ := h2'
  simp only [Value.cells] at h0' h1' h2'
  obtain ⟨z0, e0, hok0⟩ := set_of_trod h0' (fun n hn => by
      have := List.all_eq_true.1 hsz n (DataW.weights_mem_each (j := 0) (t := 25) (d := d0) rfl rfl n hn)
      simpa using this) (fun x hx => hlt x (List.mem_append_left _ (List.mem_append_left _ hx)))
  have E0 : cs0 = #[.slice z0.ga z0.gs.length z0.gc, .slice z0.ra z0.rs.length z0.rc] := by rw [← Array.toList_inj, e0] <;> rfl
  subst E0
  obtain ⟨ga1, gs1, gc1, e1, hll1, hok1⟩ := strow_of_trod h1' (fun n hn => by
      have := List.all_eq_true.1 hsz n (DataW.weights_mem_each (j := 1) (t := 58) (d := d1) rfl rfl n hn)
      simpa using this) (fun x hx => hlt x (List.mem_append_left _ (List.mem_append_right _ hx)))
  have E1 : (Value.slice sa1 sl1 sc1) = .slice ga1 gs1.length gc1 := by simpa using e1
  injection E1 with q1 q2 q3
  subst q1 q2 q3
  obtain ⟨o2, i2, p2', e2, ho2, hi2⟩ := sides_of_trod h2' (fun n hn => by
      have := List.all_eq_true.1 hsz n (DataW.weights_mem_each (j := 2) (t := 69) (d := d2) rfl rfl n hn)
      simpa using this) (fun x hx => hlt x (List.mem_append_right _ hx))
  have E2 : cs2 = #[.int .i64 o2, .int .i64 i2, .bool p2'] := by rw [← Array.toList_inj, e2] <;> rfl
  subst E2
  refine (lawLatest_any z0 sa1 gs1 sc1 o2 i2 p2' W hok0 hok1 hll1.2.1).mono fun e W' ⟨he, hn⟩ => ?_
  subst he
  exact ⟨_, rfl, ⟨_, _, _, [], _, [], hW', hres W', trodAll_mk3 (hb0 W' hn) (hb1 W' hn) (hb2 W' hn), rfl, hn.frame _, fun h => by cases h⟩⟩

theorem gateLatest_holds : Rows.GateLatestSaid :=
  OpenClaim.holds_of_wide 13 Try.f13 rfl rfl rfl rfl rfl rfl rfl ⟨rfl, rfl, rfl, rfl, rfl⟩ rfl rfl rfl rfl rfl (by kernel_rfl) Try.func13 (by kernel_rfl)
    (of_decide_eq_true (by kernel_rfl)) (by unfold Func.isWrapper; rw [if_neg (of_decide_eq_false (by kernel_rfl))]; exact ⟨rfl, rfl⟩)
    (fun os started H enc _ => gateLatest_lifted os started H enc)
#print axioms gateLatest_holds
end Go.Proofs.Ytpgggffcpcjahaa
