/-
  TideFitted (P1.14): where readings came about by levels, in the Shift of their datum and with errors of at most Error, the number in the Shift is in what Fit returns, with the exact levels and with spans around them, and with the exact levels it is not wider: the law returns true for every gauge, truth and widths. PROVED.
-/
import Derived.Test.YtfjankkkeehioaaRows
import Derived.Test.YtfjankkkeehioaaGE
import Derived.Test.YtfjankkkeehioaaTSe
set_option linter.all false
namespace Go.Proofs.Ytfjankkkeehioaa
open Go.ChangeShapes Go.WideShapes Go.ChangeAt Go.RowKit

theorem Try.cellsU8x2 : Try.prog.cellsOf 91 = 2 := by kernel_rfl
set_option maxRecDepth 100000 in
theorem tideFitted_lifted (os : Os) (started : os.Started) (H : Type) (enc : TypeId × Value → H) :
    ReturnsInHanded {} Try.checked os 17 .any (Rows.tideFittedSpec.pre6 enc Try.prog Try.f17 Rows.tideFittedRow.domain false) (Rows.tideFittedSpec.post enc Try.prog Try.f17 false true false false) := by
  refine returnsInHanded_of_change_sized (C := Try.checked) Try.own started (by kernel_rfl) Try.func17
    (ChangeSpec.witness6 (enc := enc) (C := Try.checked) false ⟨#[], #[.agg #[.string ⟨#[]⟩, .int .i64 0, .int .i64 0, .slice none 0 0, .slice none 0 0], .agg #[.int .i64 0, .int .i64 0, .slice none 0 0, .slice none 0 0, .slice none 0 0, .slice none 0 0], .agg #[.int .u8 0, .int .u8 0]], []⟩ 8 (by kernel_rfl) (by kernel_rfl) (by kernel_rfl) (by kernel_rfl)) ?_
  intro W base args ds gs before hval0 hW hcnd hsz0 _
  have hval : ∀ (j : Nat) t v, Try.f17.params[j]? = some t → args[j]? = some v → Value.okWide Try.prog W .any base t v := hval0
  have hW' := hW
  obtain ⟨p, q, hA0, hV, rfl, hfz, hnd⟩ := hW
  have hA : DataW.TrodAll enc Try.prog W 0 (fun _ => true) true Try.f17.params.toList args.toList ds p := hA0
  have hsz : (DataW.weightsEach Try.prog (Try.f17.params.toList ++ Rows.tideFittedSpec.plain.varTypes Try.prog) (ds ++ gs)).all (· ≤ reachBytes) = true := hsz0
  rw [Try.params17] at hA hval hsz
  obtain ⟨v0, v1, v2, d0, d1, d2, p0, p1, p2, rfl, rfl, rfl, h0, h1, h2⟩ := trodAll_three hA
  obtain ⟨rfl, rfl⟩ := trodVars_none hV
  clear hA0 hval0 hsz0
  simp only [List.append_nil] at hW'
  have hlt : ∀ x ∈ p0 ++ p1 ++ p2, x.block < W.heap.size := fun x hx => by simpa using hW'.lt x hx
  have hb0 : ∀ W', Below W.heap.size W W' → DataW.Trod enc Try.prog W' 0 (fun b => decide (b < W.heap.size)) true 43 v0 d0 p0 :=
    fun W' hn => Below.trod Try.laidOut (by kernel_rfl) (of_decide_eq_true (by kernel_rfl)) h0 hn (fun x hx => hlt x (List.mem_append_left _ (List.mem_append_left _ hx)))
  have hb1 : ∀ W', Below W.heap.size W W' → DataW.Trod enc Try.prog W' 0 (fun b => decide (b < W.heap.size)) true 78 v1 d1 p1 :=
    fun W' hn => Below.trod Try.laidOut (by kernel_rfl) (of_decide_eq_true (by kernel_rfl)) h1 hn (fun x hx => hlt x (List.mem_append_left _ (List.mem_append_right _ hx)))
  have hb2 : ∀ W', Below W.heap.size W W' → DataW.Trod enc Try.prog W' 0 (fun b => decide (b < W.heap.size)) true 91 v2 d2 p2 :=
    fun W' hn => Below.trod Try.laidOut (by kernel_rfl) (of_decide_eq_true (by kernel_rfl)) h2 hn (fun x hx => hlt x (List.mem_append_right _ hx))
  have hres : ∀ W' : World, DataW.TrodAll enc Try.prog W' W.heap.size (fun _ => false) false [4] [.bool true] [.lit (.bool true)] [] := fun W' => trodAll_mk1 (shut_bool Try.underlying4 _)
  obtain ⟨cs0, rfl, _⟩ := okWide_struct Try.underlying43 (hval 0 43 v0 rfl rfl)
  obtain ⟨cs1, rfl, _⟩ := okWide_struct Try.underlying78 (hval 1 78 v1 rfl rfl)
  obtain ⟨cs2, rfl, _⟩ : ∃ cs, v2 = .agg cs ∧ cs.size = 2 := by
    have h := hval 2 91 v2 rfl rfl
    simp only [Value.okWide, Try.underlying91] at h
    obtain ⟨cs, e1, e2, _⟩ := h
    exact ⟨cs, e1, e2.trans Try.cellsU8x2⟩
  have h0' := h0
  have h1' := h1
  have h2' := h2
  obtain ⟨f0, h0'⟩ := h0'
  obtain ⟨f1, h1'⟩ := h1'
  obtain ⟨f2, h2'⟩ := h2'
  simp only [Value.cells] at h0' h1' h2'
  obtain ⟨g0, gp0, e0, hok0⟩ := gau_of_trod h0' (fun n hn => by
      have := List.all_eq_true.1 hsz n (DataW.weights_mem_each (j := 0) (t := 43) (d := d0) rfl rfl n hn)
      simpa using this) (fun x hx => hlt x (List.mem_append_left _ (List.mem_append_left _ hx)))
  have E0 : cs0 = #[.string g0.name, .int .i64 g0.err, .int .i64 g0.rate, .slice gp0.da g0.ds.length gp0.dc, .slice gp0.ra g0.rs.length gp0.rc] := by rw [← Array.toList_inj, e0]
  subst E0
  obtain ⟨x1, xp1, e1, hok1⟩ := tru_of_trod h1' (fun n hn => by
      have := List.all_eq_true.1 hsz n (DataW.weights_mem_each (j := 1) (t := 78) (d := d1) rfl rfl n hn)
      simpa using this) (fun x hx => hlt x (List.mem_append_left _ (List.mem_append_right _ hx)))
  have E1 : cs1 = #[.int .i64 x1.from_, .int .i64 x1.level, .slice xp1.ma x1.mv.length xp1.mc, .slice xp1.ga x1.gp.length xp1.gc, .slice xp1.sa x1.sh.length xp1.sc, .slice xp1.ea x1.er.length xp1.ec] := by rw [← Array.toList_inj, e1]
  subst E1
  obtain ⟨e2, hx2⟩ := u8s_of_trod Try.underlying91 Try.cellsU8x2 h2'
  obtain ⟨t20, i20, b20⟩ := hx2 0 (by omega)
  obtain ⟨t21, i21, b21⟩ := hx2 1 (by omega)
  have E2 : cs2 = #[.int .u8 t20, .int .u8 t21] := by
    rw [← Array.toList_inj]
    refine List.ext_getElem? fun i => ?_
    match i with
    | 0 => simpa using i20
    | 1 => simpa using i21
    | n + 2 => rw [List.getElem?_eq_none (by omega)]; simp
  subst E2
  refine (lawFitted_any g0 gp0 x1 xp1 t20 t21 W hok0 hok1 b20.1 b20.2 b21.1 b21.2).mono fun e W' ⟨he, hn⟩ => ?_
  subst he
  exact ⟨_, rfl, ⟨_, _, _, [], _, [], hW', hres W', trodAll_mk3 (hb0 W' hn) (hb1 W' hn) (hb2 W' hn), rfl, hn.frame _, fun h => by cases h⟩⟩

theorem tideFitted_holds : Rows.TideFittedSaid :=
  OpenClaim.holds_of_wide 17 Try.f17 rfl rfl rfl rfl rfl rfl rfl ⟨rfl, rfl, rfl, rfl, rfl⟩ rfl rfl rfl rfl rfl (by kernel_rfl) Try.func17 (by kernel_rfl)
    (of_decide_eq_true (by kernel_rfl)) (by unfold Func.isWrapper; rw [if_neg (of_decide_eq_false (by kernel_rfl))]; exact ⟨rfl, rfl⟩)
    (fun os started H enc _ => tideFitted_lifted os started H enc)
#print axioms tideFitted_holds
end Go.Proofs.Ytfjankkkeehioaa
