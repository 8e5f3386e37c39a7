/-
  TideHighest (P1.10): whatever the levels in their spans are, the greatest one is at a tick that High returns, and at each of these it can be: the law returns true for every table, ticks and shares. PROVED.
-/
import Derived.Test.YtfjankkkeehioaaRows
import Derived.Test.YtfjankkkeehioaaZJ
import Derived.Test.YtfjankkkeehioaaTSb
set_option linter.all false
namespace Go.Proofs.Ytfjankkkeehioaa
open Go.ChangeShapes Go.WideShapes Go.ChangeAt Go.RowKit

theorem Try.cells2 : Try.prog.cellsOf 74 = 2 := by kernel_rfl
set_option maxRecDepth 100000 in
theorem tideHighest_lifted (os : Os) (started : os.Started) (H : Type) (enc : TypeId × Value → H) :
    ReturnsInHanded {} Try.checked os 11 .any (Rows.tideHighestSpec.pre6 enc Try.prog Try.f11 Rows.tideHighestRow.domain false) (Rows.tideHighestSpec.post enc Try.prog Try.f11 false true false false) := by
  refine returnsInHanded_of_change_sized (C := Try.checked) Try.own started (by kernel_rfl) Try.func11
    (ChangeSpec.witness6 (enc := enc) (C := Try.checked) false ⟨#[], #[.agg #[.int .i64 0, .slice none 0 0], .agg #[.int .i64 0, .int .i64 0], .slice none 0 0], []⟩ 8 (by kernel_rfl) (by kernel_rfl) (by kernel_rfl) (by kernel_rfl)) ?_
  intro W base args ds gs before hval0 hW hcnd hsz0 _
  have hval : ∀ (j : Nat) t v, Try.f11.params[j]? = some t → args[j]? = some v → Value.okWide Try.prog W .any base t v := hval0
  have hW' := hW
  obtain ⟨p, q, hA0, hV, rfl, hfz, hnd⟩ := hW
  have hA : DataW.TrodAll enc Try.prog W 0 (fun _ => true) true Try.f11.params.toList args.toList ds p := hA0
  have hsz : (DataW.weightsEach Try.prog (Try.f11.params.toList ++ Rows.tideHighestSpec.plain.varTypes Try.prog) (ds ++ gs)).all (· ≤ reachBytes) = true := hsz0
  rw [Try.params11] at hA hval hsz
  obtain ⟨v0, v1, v2, d0, d1, d2, p0, p1, p2, rfl, rfl, rfl, h0, h1, h2⟩ := trodAll_three hA
  obtain ⟨rfl, rfl⟩ := trodVars_none hV
  clear hA0 hval0 hsz0
  simp only [List.append_nil] at hW'
  have hlt : ∀ x ∈ p0 ++ p1 ++ p2, x.block < W.heap.size := fun x hx => by simpa using hW'.lt x hx
  have hb0 : ∀ W', Below W.heap.size W W' → DataW.Trod enc Try.prog W' 0 (fun b => decide (b < W.heap.size)) true 24 v0 d0 p0 :=
    fun W' hn => Below.trod Try.laidOut (by kernel_rfl) (of_decide_eq_true (by kernel_rfl)) h0 hn (fun x hx => hlt x (List.mem_append_left _ (List.mem_append_left _ hx)))
  have hb1 : ∀ W', Below W.heap.size W W' → DataW.Trod enc Try.prog W' 0 (fun b => decide (b < W.heap.size)) true 74 v1 d1 p1 :=
    fun W' hn => Below.trod Try.laidOut (by kernel_rfl) (of_decide_eq_true (by kernel_rfl)) h1 hn (fun x hx => hlt x (List.mem_append_left _ (List.mem_append_right _ hx)))
  have hb2 : ∀ W', Below W.heap.size W W' → DataW.Trod enc Try.prog W' 0 (fun b => decide (b < W.heap.size)) true 75 v2 d2 p2 :=
    fun W' hn => Below.trod Try.laidOut (by kernel_rfl) (of_decide_eq_true (by kernel_rfl)) h2 hn (fun x hx => hlt x (List.mem_append_right _ hx))
  have hres : ∀ W' : World, DataW.TrodAll enc Try.prog W' W.heap.size (fun _ => false) false [4] [.bool true] [.lit (.bool true)] [] := fun W' => trodAll_mk1 (shut_bool Try.underlying4 _)
  obtain ⟨cs0, rfl, _⟩ := okWide_struct Try.underlying24 (hval 0 24 v0 rfl rfl)
  obtain ⟨cs1, rfl, _⟩ : ∃ cs, v1 = .agg cs ∧ cs.size = 2 := by
    have h := hval 1 74 v1 rfl rfl
    simp only [Value.okWide, Try.underlying74] at h
    obtain ⟨cs, e1, e2, _⟩ := h
    exact ⟨cs, e1, e2.trans Try.cells2⟩
  obtain ⟨sa, sl, sc, rfl⟩ := okWide_slice Try.underlying75 (hval 2 75 v2 rfl rfl)
  have h0' := h0
  have h1' := h1
  have h2' := h2
  obtain ⟨f0, h0'⟩ := h0'
  obtain ⟨f1, h1'⟩ := h1'
  obtain ⟨f2, h2'⟩ := h2'
  simp only [Value.cells] at h0' h1' h2'
  obtain ⟨mean, a, l, cap, e0, _, hok⟩ := tab_of_trod h0' (fun n hn => by
      have := List.all_eq_true.1 hsz n (DataW.weights_mem_each (j := 0) (t := 24) (d := d0) rfl rfl n hn)
      simpa using this) (fun x hx => hlt x (List.mem_append_left _ (List.mem_append_left _ hx)))
  obtain ⟨e1, hx⟩ := ints_of_trod Try.underlying74 Try.cells2 h1'
  obtain ⟨x0, i0, _⟩ := hx 0 (by omega)
  obtain ⟨x1, i1, _⟩ := hx 1 (by omega)
  obtain ⟨sa', sh, sc', e2, hsl, hsb, hsa⟩ := u8row_of_trod h2' (fun n hn => by
      have := List.all_eq_true.1 hsz n (DataW.weights_mem_each (j := 2) (t := 75) (d := d2) rfl rfl n hn)
      simpa using this) (fun x hx => hlt x (List.mem_append_right _ hx))
  have E0 : cs0 = #[.int .i64 mean, .slice a l.length cap] := by rw [← Array.toList_inj, e0]
  have E1 : cs1 = #[.int .i64 x0, .int .i64 x1] := by
    rw [← Array.toList_inj]
    refine List.ext_getElem? fun i => ?_
    match i with
    | 0 => simpa using i0
    | 1 => simpa using i1
    | n + 2 => rw [List.getElem?_eq_none (by omega)]; simp
  have E2 : (Value.slice sa sl sc) = .slice sa' sh.length sc' := by simpa using e2
  injection E2 with q1 q2 q3
  subst E0 E1 q1 q2 q3
  refine (highest_any mean a cap l x0 x1 sa sh sc W hok hsl hsb hsa).mono fun e W' ⟨he, hn⟩ => ?_
  subst he
  exact ⟨_, rfl, ⟨_, _, _, [], _, [], hW', hres W', trodAll_mk3 (hb0 W' hn) (hb1 W' hn) (hb2 W' hn), rfl, hn.frame _, fun h => by cases h⟩⟩

theorem tideHighest_holds : Rows.TideHighestSaid :=
  OpenClaim.holds_of_wide 11 Try.f11 rfl rfl rfl rfl rfl rfl rfl ⟨rfl, rfl, rfl, rfl, rfl⟩ rfl rfl rfl rfl rfl (by kernel_rfl) Try.func11 (by kernel_rfl)
    (of_decide_eq_true (by kernel_rfl)) (by unfold Func.isWrapper; rw [if_neg (of_decide_eq_false (by kernel_rfl))]; exact ⟨rfl, rfl⟩)
    (fun os started H enc _ => tideHighest_lifted os started H enc)
#print axioms tideHighest_holds
end Go.Proofs.Ytfjankkkeehioaa
