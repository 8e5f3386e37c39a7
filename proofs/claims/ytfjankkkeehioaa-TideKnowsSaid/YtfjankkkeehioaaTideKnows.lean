/-
  TideKnows (P1.11): whatever the gauge and the ticks, more readings make no span wider, and the answer is levels: the law returns true for every input. PROVED.
-/
import Derived.Test.YtfjankkkeehioaaRows
import Derived.Test.YtfjankkkeehioaaTQd
import Derived.Test.YtfjankkkeehioaaTS
set_option linter.all false
namespace Go.Proofs.Ytfjankkkeehioaa
open Go.ChangeShapes Go.WideShapes Go.ChangeAt Go.RowKit

theorem Try.cells3 : Try.prog.cellsOf 83 = 3 := by kernel_rfl
set_option maxRecDepth 100000 in
theorem tideKnows_lifted (os : Os) (started : os.Started) (H : Type) (enc : TypeId × Value → H) :
    ReturnsInHanded {} Try.checked os 13 .any (Rows.tideKnowsSpec.pre6 enc Try.prog Try.f13 Rows.tideKnowsRow.domain false) (Rows.tideKnowsSpec.post enc Try.prog Try.f13 false true false false) := by
  refine returnsInHanded_of_change_sized (C := Try.checked) Try.own started (by kernel_rfl) Try.func13
    (ChangeSpec.witness6 (enc := enc) (C := Try.checked) false ⟨#[], #[.agg #[.string ⟨#[]⟩, .int .i64 0, .int .i64 0, .slice none 0 0, .slice none 0 0], .agg #[.int .i64 0, .int .i64 0, .int .i64 0]], []⟩ 8 (by kernel_rfl) (by kernel_rfl) (by kernel_rfl) (by kernel_rfl)) ?_
  intro W base args ds gs before hval0 hW hcnd hsz0 _
  have hval : ∀ (j : Nat) t v, Try.f13.params[j]? = some t → args[j]? = some v → Value.okWide Try.prog W .any base t v := hval0
  have hW' := hW
  obtain ⟨p, q, hA0, hV, rfl, hfz, hnd⟩ := hW
  have hA : DataW.TrodAll enc Try.prog W 0 (fun _ => true) true Try.f13.params.toList args.toList ds p := hA0
  have hsz : (DataW.weightsEach Try.prog (Try.f13.params.toList ++ Rows.tideKnowsSpec.plain.varTypes Try.prog) (ds ++ gs)).all (· ≤ reachBytes) = true := hsz0
  rw [Try.params13] at hA hval hsz
  obtain ⟨v0, v1, d0, d1, p0, p1, rfl, rfl, rfl, h0, h1⟩ := trodAll_two hA
  obtain ⟨rfl, rfl⟩ := trodVars_none hV
  clear hA0 hval0 hsz0
  simp only [List.append_nil] at hW'
  have hlt : ∀ x ∈ p0 ++ p1, x.block < W.heap.size := fun x hx => by simpa using hW'.lt x hx
  have hb0 : ∀ W', Below W.heap.size W W' → DataW.Trod enc Try.prog W' 0 (fun b => decide (b < W.heap.size)) true 43 v0 d0 p0 :=
    fun W' hn => Below.trod Try.laidOut (by kernel_rfl) (of_decide_eq_true (by kernel_rfl)) h0 hn (fun x hx => hlt x (List.mem_append_left _ hx))
  have hb1 : ∀ W', Below W.heap.size W W' → DataW.Trod enc Try.prog W' 0 (fun b => decide (b < W.heap.size)) true 83 v1 d1 p1 :=
    fun W' hn => Below.trod Try.laidOut (by kernel_rfl) (of_decide_eq_true (by kernel_rfl)) h1 hn (fun x hx => hlt x (List.mem_append_right _ hx))
  have hres : ∀ W' : World, DataW.TrodAll enc Try.prog W' W.heap.size (fun _ => false) false [4] [.bool true] [.lit (.bool true)] [] := fun W' => trodAll_mk1 (shut_bool Try.underlying4 _)
  obtain ⟨cs0, rfl, _⟩ := okWide_struct Try.underlying43 (hval 0 43 v0 rfl rfl)
  obtain ⟨cs1, rfl, _⟩ : ∃ cs, v1 = .agg cs ∧ cs.size = 3 := by
    have h := hval 1 83 v1 rfl rfl
    simp only [Value.okWide, Try.underlying83] at h
    obtain ⟨cs, e1, e2, _⟩ := h
    exact ⟨cs, e1, e2.trans Try.cells3⟩
  have h0' := h0
  have h1' := h1
  obtain ⟨f0, h0'⟩ := h0'
  obtain ⟨f1, h1'⟩ := h1'
  simp only [Value.cells] at h0' h1'
  obtain ⟨g, gp, e0, hok⟩ := gau_of_trod h0' (fun n hn => by
      have := List.all_eq_true.1 hsz n (DataW.weights_mem_each (j := 0) (t := 43) (d := d0) rfl rfl n hn)
      simpa using this) (fun x hx => hlt x (List.mem_append_left _ hx))
  obtain ⟨e1, hx⟩ := ints_of_trod Try.underlying83 Try.cells3 h1'
  obtain ⟨x0, i0, _⟩ := hx 0 (by omega)
  obtain ⟨x1, i1, _⟩ := hx 1 (by omega)
  obtain ⟨x2, i2, _⟩ := hx 2 (by omega)
  have E0 : cs0 = #[.string g.name, .int .i64 g.err, .int .i64 g.rate, .slice gp.da g.ds.length gp.dc, .slice gp.ra g.rs.length gp.rc] := by rw [← Array.toList_inj, e0]
  have E1 : cs1 = #[.int .i64 x0, .int .i64 x1, .int .i64 x2] := by
    rw [← Array.toList_inj]
    refine List.ext_getElem? fun i => ?_
    match i with
    | 0 => simpa using i0
    | 1 => simpa using i1
    | 2 => simpa using i2
    | n + 3 => rw [List.getElem?_eq_none (by omega)]; simp
  subst E0 E1
  refine (knows_any g gp x0 x1 x2 W hok).mono fun e W' ⟨he, hn⟩ => ?_
  subst he
  exact ⟨_, rfl, ⟨_, _, _, [], _, [], hW', hres W', trodAll_mk2 (hb0 W' hn) (hb1 W' hn), rfl, hn.frame _, fun h => by cases h⟩⟩

theorem tideKnows_holds : Rows.TideKnowsSaid :=
  OpenClaim.holds_of_wide 13 Try.f13 rfl rfl rfl rfl rfl rfl rfl ⟨rfl, rfl, rfl, rfl, rfl⟩ rfl rfl rfl rfl rfl (by kernel_rfl) Try.func13 (by kernel_rfl)
    (of_decide_eq_true (by kernel_rfl)) (by unfold Func.isWrapper; rw [if_neg (of_decide_eq_false (by kernel_rfl))]; exact ⟨rfl, rfl⟩)
    (fun os started H enc _ => tideKnows_lifted os started H enc)
#print axioms tideKnows_holds
end Go.Proofs.Ytfjankkkeehioaa
