/- Gate, part WZ: Awake. -/
import Derived.Test.YtpgggffcpcjahaaWT
import Derived.Test.YtpgggffcpcjahaaWE
import Derived.Test.YtpgggffcpcjahaaWC
set_option linter.all false
namespace Go.Proofs.Ytpgggffcpcjahaa
open Go.RowKit

theorem zero_rows (V : World) : World.rangeAt (V.alloc (.cells #[.int .i64 0, .int .i64 0, .bool false, .int .i64 0, .int .i64 0, .bool false] 44)) V.heap.size 0 (stL ⟨0, 0, false⟩ ++ stL ⟨0, 0, false⟩) := fun j v hv => by
  rw [cell_of_row _ V.heap.size _ _ 44 (0, 0) (heap_alloc_new V _)]
  simpa [stL] using hv
theorem fallsEx (p : GtP) (w : World) (hok : GtOk w p exGt) : Calls Try.prog 22 #[.agg (gtL exGt p).toArray, .int .i64 9000, .int .i64 8000] w fun e w' => e = .returned (.tuple #[.int .i64 891, .int .i64 0]) ∧ Below w.heap.size w w' := by
  have := falls_any exGt p 9000 8000 w hok
  rwa [ex_falls] at this
theorem stepEx (p : GtP) (w : World) (hok : GtOk w p exGt) : Calls Try.prog 26 #[.agg (gtL exGt p).toArray, .agg #[.int .i64 100, .int .i64 100, .bool false], .agg #[.int .i64 2, .bool true, .int .i64 3000, .int .i64 1000]] w fun e w' => e = .returned (.tuple #[.agg #[.int .i64 75, .int .i64 105, .bool false], .agg #[.int .i64 0, .int .i64 (-25), .int .i64 25], .int .i64 0]) ∧ Below w.heap.size w w' := by
  have := stepFn_any exGt p ⟨100, 100, false⟩ ⟨2, true, 3000, 1000⟩ w hok
  rwa [ex_step] at this
theorem whereEx (p : GtP) (w : World) (hok : GtOk w p exGt) : Calls Try.prog 27 #[.agg (gtL exGt p).toArray, .slice none 0 0] w fun e w' => e = .returned (.tuple #[.agg #[.int .i64 0, .int .i64 0], .int .i64 2]) ∧ Below w.heap.size w w' :=
  whereShort_any exGt p none 0 0 w hok ex_check (by decide)
theorem delayEx (z : SetV) (hg : z.gs = [exGt, exWest]) (hr : z.rs = [exRu]) (b : Nat) (w : World) (hok : SetOk w z) (hb : b < w.heap.size) (hat : w.rangeAt b 0 (stL ⟨0, 0, false⟩ ++ stL ⟨0, 0, false⟩)) :
    Calls Try.prog 36 #[.agg #[.slice z.ga z.gs.length z.gc, .slice z.ra z.rs.length z.rc], .slice (some ⟨b, 0, none⟩) 2 2, .int .i64 3000, .int .i64 1000, .bool false] w fun e w' => e = .returned (.tuple #[.int .i64 5, .int .i64 0]) ∧ Below w.heap.size w w' := by
  obtain ⟨ga, gs, gc, ps, ra, rs, rc⟩ := z
  dsimp only at hg hr
  subst hg hr
  have := delayEq_any ga (some ⟨b, 0, none⟩) ra [exGt, exWest] [exRu] [⟨0, 0, false⟩, ⟨0, 0, false⟩] gc 2 rc 2 ps 3000 1000 false w rfl hok (.inr ⟨b, 0, rfl, hb, fun i hi j v hv => by
    have hj : j < 3 := by
      match i, hi with
      | 0, _ => exact (List.getElem?_eq_some_iff.1 hv).1
      | 1, _ => exact (List.getElem?_eq_some_iff.1 hv).1
    have h3 : j = 0 ∨ j = 1 ∨ j = 2 := by omega
    match i, hi with
    | 0, _ => rcases h3 with rfl | rfl | rfl
              · exact hat 0 v hv
              · exact hat 1 v hv
              · exact hat 2 v hv
    | 1, _ => rcases h3 with rfl | rfl | rfl
              · exact hat 3 v hv
              · exact hat 4 v hv
              · exact hat 5 v hv⟩) rfl
  rwa [ex_delay] at this
set_option maxRecDepth 100000 in
set_option maxHeartbeats 4000000 in
theorem awake_any (w : World) : Calls Try.prog 19 #[] w fun e w' => e = .returned (.bool true) ∧ Below w.heap.size w w' := by
  go_enter Try.func19, Try.ntmps19
  go_wp2_with fail
  refine (example_any _).mono ?_
  rintro e w1 ⟨a1, b1, rfl, hok, -, hb1⟩
  have HO := hid hok
  generalize (⟨some ⟨a1, 0, none⟩, 2, some ⟨b1, 0, none⟩, 3⟩ : GtP) = p1 at *
  clear hok
  go_wp2_with fail
  refine (fallsEx p1 _ HO.out).mono ?_
  rintro e w1' ⟨rfl, hb2⟩
  replace hb1 := hb1.trans (hb2.mono hb1.size)
  clear HO hb2
  go_wp2_with fail
  refine (example_any _).mono ?_
  rintro e w1 ⟨a1, b1, rfl, hok, -, hb2⟩
  replace hb1 := hb1.trans (hb2.mono hb1.size)
  have HO := hid hok
  generalize (⟨some ⟨a1, 0, none⟩, 2, some ⟨b1, 0, none⟩, 3⟩ : GtP) = p1 at *
  clear hok hb2
  go_wp2_with fail
  refine (stepEx p1 _ HO.out).mono ?_
  rintro e w1' ⟨rfl, hb2⟩
  replace hb1 := hb1.trans (hb2.mono hb1.size)
  clear HO hb2
  go_wp2_with fail
  have hU : Below w.heap.size w ((w1'.alloc (.cells #[.int .i64 75, .int .i64 105, .bool false] 44)).alloc (.cells #[.int .i64 0, .int .i64 (-25), .int .i64 25] 46)) := (hb1.alloc hb1.size _).alloc (by rw [World.size_alloc]; exact Nat.le_succ_of_le hb1.size) _
  have c0 : ((w1'.alloc (.cells #[.int .i64 75, .int .i64 105, .bool false] 44)).alloc (.cells #[.int .i64 0, .int .i64 (-25), .int .i64 25] 46)).cell? ⟨w1'.heap.size, 0, none⟩ = some (.int .i64 75) := by simp [go_sem]
  have c1 : ((w1'.alloc (.cells #[.int .i64 75, .int .i64 105, .bool false] 44)).alloc (.cells #[.int .i64 0, .int .i64 (-25), .int .i64 25] 46)).cell? ⟨w1'.heap.size, 1, none⟩ = some (.int .i64 105) := by simp [go_sem]
  have c2 : ((w1'.alloc (.cells #[.int .i64 75, .int .i64 105, .bool false] 44)).alloc (.cells #[.int .i64 0, .int .i64 (-25), .int .i64 25] 46)).cell? ⟨w1'.heap.size, 2, none⟩ = some (.bool false) := by simp [go_sem]
  have d0 : ((w1'.alloc (.cells #[.int .i64 75, .int .i64 105, .bool false] 44)).alloc (.cells #[.int .i64 0, .int .i64 (-25), .int .i64 25] 46)).cell? ⟨w1'.heap.size + 1, 0, none⟩ = some (.int .i64 0) := by simp [go_sem]
  have d1 : ((w1'.alloc (.cells #[.int .i64 75, .int .i64 105, .bool false] 44)).alloc (.cells #[.int .i64 0, .int .i64 (-25), .int .i64 25] 46)).cell? ⟨w1'.heap.size + 1, 1, none⟩ = some (.int .i64 (-25)) := by simp [go_sem]
  have d2 : ((w1'.alloc (.cells #[.int .i64 75, .int .i64 105, .bool false] 44)).alloc (.cells #[.int .i64 0, .int .i64 (-25), .int .i64 25] 46)).cell? ⟨w1'.heap.size + 1, 2, none⟩ = some (.int .i64 25) := by simp [go_sem]
  have lXs : w1'.heap.size < ((w1'.alloc (.cells #[.int .i64 75, .int .i64 105, .bool false] 44)).alloc (.cells #[.int .i64 0, .int .i64 (-25), .int .i64 25] 46)).heap.size := by simp <;> omega
  have lXm : w1'.heap.size + 1 < ((w1'.alloc (.cells #[.int .i64 75, .int .i64 105, .bool false] 44)).alloc (.cells #[.int .i64 0, .int .i64 (-25), .int .i64 25] 46)).heap.size := by simp
  clear hb1
  generalize World.alloc (World.alloc _ _) _ = w2 at *
  have hmk : ∀ W, (Instr.makeSlice 58 (.int .i64 2) (.int .i64 2)).run Try.prog W = .ok (.slice (some ⟨W.heap.size, 0, none⟩) 2 2) (W.alloc (.cells #[.int .i64 0, .int .i64 0, .bool false, .int .i64 0, .int .i64 0, .bool false] 44)) := fun _ => by kernel_rfl
  generalize w1'.heap.size + 1 = Xm at *
  generalize w1'.heap.size = Xs at *
  refine wp_region_noPanic ?_
  refine wp_region_held_drew (S := (fun w' => Below w2.heap.size w2 w')) (by kernel_rfl) ?_ (fun hHeld => ?_)
  · exact (Below.refl _ _).drew
  generalize World.drew _ = V0 at *
  refine wpAnyH_ready (rs := [0, 1]) (by kernel_rfl) (by simp) ?_
  refine AllReadyH.cons (o := { dst := _, op := _, type := _, pos := _, after := _, guard := _ }) rfl (fun K hK => ?_) ?_
  · go_simp
    (go_at_call 30; (with_reducible refine (pair_any _).mono ?_); rintro e V1 ⟨z, rfl, hzg, hzr, hzo, hbe⟩; have HZg := hid hzg; have HZr := hid hzr; clear hzg hzr)
    try go_wp2_with fail
    refine hK.out _ _ ?_ (fun hHeld => ?_)
    · (try dsimp only); exact hHeld.trans (hbe.mono hHeld.size)
    clear hK K
    try simp only [Act.put, List.setIfInBounds_toArray, List.set_cons_zero, List.set_cons_succ]
    refine wpAnyH_ready (rs := [1]) (by kernel_rfl) (by simp) ?_
    refine AllReadyH.cons (o := { dst := _, op := _, type := _, pos := _, after := _, guard := _ }) rfl (fun K hK => ?_) AllReadyH.nil
    go_simp
    refine hK.out _ _ ?_ (fun hHeld => ?_)
    · (try dsimp only); exact hHeld.trans (((Below.refl _ _).alloc (Nat.le_refl _) _).mono hHeld.size)
    clear hK K
    try simp only [Act.put, List.setIfInBounds_toArray, List.set_cons_zero, List.set_cons_succ]
    refine wpAnyH_ready (rs := [2]) (by kernel_rfl) (by simp) ?_
    refine AllReadyH.cons (o := { dst := _, op := _, type := _, pos := _, after := _, guard := _ }) rfl (fun K hK => ?_) AllReadyH.nil
    go_simp
    (go_at_call 36; (with_reducible refine (delayEx z HZg.out HZr.out V1.heap.size _ (hzo.later ((Below.refl _ _).alloc (Nat.le_refl _) _) (Nat.le_refl _)) (by simp) (zero_rows V1)).mono ?_); rintro e V3 ⟨rfl, hbe⟩)
    try go_wp2_with fail
    refine hK.out _ _ ?_ (fun hHeld => ?_)
    · (try dsimp only); exact hHeld.trans (hbe.mono hHeld.size)
    clear hK K
    try simp only [Act.put, List.setIfInBounds_toArray, List.set_cons_zero, List.set_cons_succ]
    refine wpAnyH_take (i := 3) (oi := { dst := _, op := _, type := _, pos := _, after := _, guard := _ }) (v := ?_) rfl (by kernel_rfl) (by kernel_rfl) (by kernel_rfl) (fun _ _ _ h => h) (Or.inl ⟨by rfl, ?_⟩) (by assumption) ?_
    rotate_left
    · intro wS hSw; (try dsimp only at hSw); go_simp; try (with_reducible rfl)
    try simp only [Act.put, List.setIfInBounds_toArray, List.set_cons_zero, List.set_cons_succ]
    refine wpAnyH_take (i := 4) (oi := { dst := _, op := _, type := _, pos := _, after := _, guard := _ }) (v := ?_) rfl (by kernel_rfl) (by kernel_rfl) (by kernel_rfl) (fun _ _ _ h => h) (Or.inl ⟨by rfl, ?_⟩) (by assumption) ?_
    rotate_left
    · intro wS hSw; (try dsimp only at hSw); go_simp; try (with_reducible rfl)
    try simp only [Act.put, List.setIfInBounds_toArray, List.set_cons_zero, List.set_cons_succ]
    refine wpAnyH_take (i := 5) (oi := { dst := _, op := _, type := _, pos := _, after := _, guard := _ }) (v := ?_) rfl (by kernel_rfl) (by kernel_rfl) (by kernel_rfl) (fun _ _ _ h => h) (Or.inl ⟨by rfl, ?_⟩) (by assumption) ?_
    rotate_left
    · intro wS hSw; (try dsimp only at hSw); go_simp; try (with_reducible rfl)
    try simp only [Act.put, List.setIfInBounds_toArray, List.set_cons_zero, List.set_cons_succ]
    refine wpAnyH_take (i := 6) (oi := { dst := _, op := _, type := _, pos := _, after := _, guard := _ }) (v := ?_) rfl (by kernel_rfl) (by kernel_rfl) (by kernel_rfl) (fun _ _ _ h => h) (Or.inl ⟨by rfl, ?_⟩) (by assumption) ?_
    rotate_left
    · intro wS hSw; (try dsimp only at hSw); go_simp; try (with_reducible rfl)
    try simp only [Act.put, List.setIfInBounds_toArray, List.set_cons_zero, List.set_cons_succ]
    refine wpAnyH_take (i := 7) (oi := { dst := _, op := _, type := _, pos := _, after := _, guard := _ }) (v := ?_) rfl (by kernel_rfl) (by kernel_rfl) (by kernel_rfl) (fun _ _ _ h => h) (Or.inl ⟨by rfl, ?_⟩) (by assumption) ?_
    rotate_left
    · intro wS hSw; (try dsimp only at hSw); go_simp; try (with_reducible rfl)
    try simp only [Act.put, List.setIfInBounds_toArray, List.set_cons_zero, List.set_cons_succ]
    clear hmk
    refine wpAnyH_done (by kernel_rfl) ?_ _
    refine NoPanic.normal ?_
    have HB3 := hid hHeld
    clear hHeld
    generalize V3 = W3 at *
    go_wp2_with fail
    refine (example_any _).mono ?_
    rintro e w4 ⟨a1, b1, rfl, hok, -, hb4⟩
    have HO := hid hok
    generalize (⟨some ⟨a1, 0, none⟩, 2, some ⟨b1, 0, none⟩, 3⟩ : GtP) = p4 at *
    clear hok
    go_wp2_with fail
    refine (whereEx p4 _ HO.out).mono ?_
    rintro e w5 ⟨rfl, hb5⟩
    clear HO
    have B5 := HB3.out.trans ((hb4.mono HB3.out.size).trans (hb5.mono (Nat.le_trans HB3.out.size hb4.size)))
    replace c0 := (B5.cell (p := ⟨Xs, 0, none⟩) lXs).trans c0
    replace c1 := (B5.cell (p := ⟨Xs, 1, none⟩) lXs).trans c1
    replace c2 := (B5.cell (p := ⟨Xs, 2, none⟩) lXs).trans c2
    replace d0 := (B5.cell (p := ⟨Xm, 0, none⟩) lXm).trans d0
    replace d1 := (B5.cell (p := ⟨Xm, 1, none⟩) lXm).trans d1
    replace d2 := (B5.cell (p := ⟨Xm, 2, none⟩) lXm).trans d2
    have lXs5 := Nat.lt_of_lt_of_le lXs B5.size
    have lXm5 := Nat.lt_of_lt_of_le lXm B5.size
    have BW := hU.trans (B5.mono hU.size)
    clear B5 hb4 hb5
    go_wp2_with fail
    go_ret
    exact ⟨rfl, BW.alloc BW.size _⟩
  refine AllReadyH.cons (o := { dst := _, op := _, type := _, pos := _, after := _, guard := _ }) rfl (fun K hK => ?_) AllReadyH.nil
  go_simp
  refine hK.out _ _ ?_ (fun hHeld => ?_)
  · (try dsimp only); exact hHeld.trans (((Below.refl _ _).alloc (Nat.le_refl _) _).mono hHeld.size)
  clear hK K
  try simp only [Act.put, List.setIfInBounds_toArray, List.set_cons_zero, List.set_cons_succ]
  refine wpAnyH_ready (rs := [0]) (by kernel_rfl) (by simp) ?_
  refine AllReadyH.cons (o := { dst := _, op := _, type := _, pos := _, after := _, guard := _ }) rfl (fun K hK => ?_) AllReadyH.nil
  go_simp
  (go_at_call 30; (with_reducible refine (pair_any _).mono ?_); rintro e V1 ⟨z, rfl, hzg, hzr, hzo, hbe⟩; have HZg := hid hzg; have HZr := hid hzr; clear hzg hzr)
  have HbeP := hid hbe
  try go_wp2_with fail
  refine hK.out _ _ ?_ (fun hHeld => ?_)
  · (try dsimp only); exact hHeld.trans (hbe.mono hHeld.size)
  clear hK K
  try simp only [Act.put, List.setIfInBounds_toArray, List.set_cons_zero, List.set_cons_succ]
  refine wpAnyH_ready (rs := [2]) (by kernel_rfl) (by simp) ?_
  refine AllReadyH.cons (o := { dst := _, op := _, type := _, pos := _, after := _, guard := _ }) rfl (fun K hK => ?_) AllReadyH.nil
  go_simp
  (go_at_call 36; (with_reducible refine (delayEx z HZg.out HZr.out V0.heap.size _ hzo (Nat.lt_of_lt_of_le (by simp) HbeP.out.size) (range_later (range_alloc V0 (stL ⟨0, 0, false⟩ ++ stL ⟨0, 0, false⟩) 44) HbeP.out (by simp))).mono ?_); rintro e V3 ⟨rfl, hbe⟩)
  try go_wp2_with fail
  refine hK.out _ _ ?_ (fun hHeld => ?_)
  · (try dsimp only); exact hHeld.trans (hbe.mono hHeld.size)
  clear hK K
  try simp only [Act.put, List.setIfInBounds_toArray, List.set_cons_zero, List.set_cons_succ]
  refine wpAnyH_take (i := 3) (oi := { dst := _, op := _, type := _, pos := _, after := _, guard := _ }) (v := ?_) rfl (by kernel_rfl) (by kernel_rfl) (by kernel_rfl) (fun _ _ _ h => h) (Or.inl ⟨by rfl, ?_⟩) (by assumption) ?_
  rotate_left
  · intro wS hSw; (try dsimp only at hSw); go_simp; try (with_reducible rfl)
  try simp only [Act.put, List.setIfInBounds_toArray, List.set_cons_zero, List.set_cons_succ]
  refine wpAnyH_take (i := 4) (oi := { dst := _, op := _, type := _, pos := _, after := _, guard := _ }) (v := ?_) rfl (by kernel_rfl) (by kernel_rfl) (by kernel_rfl) (fun _ _ _ h => h) (Or.inl ⟨by rfl, ?_⟩) (by assumption) ?_
  rotate_left
  · intro wS hSw; (try dsimp only at hSw); go_simp; try (with_reducible rfl)
  try simp only [Act.put, List.setIfInBounds_toArray, List.set_cons_zero, List.set_cons_succ]
  refine wpAnyH_take (i := 5) (oi := { dst := _, op := _, type := _, pos := _, after := _, guard := _ }) (v := ?_) rfl (by kernel_rfl) (by kernel_rfl) (by kernel_rfl) (fun _ _ _ h => h) (Or.inl ⟨by rfl, ?_⟩) (by assumption) ?_
  rotate_left
  · intro wS hSw; (try dsimp only at hSw); go_simp; try (with_reducible rfl)
  try simp only [Act.put, List.setIfInBounds_toArray, List.set_cons_zero, List.set_cons_succ]
  refine wpAnyH_take (i := 6) (oi := { dst := _, op := _, type := _, pos := _, after := _, guard := _ }) (v := ?_) rfl (by kernel_rfl) (by kernel_rfl) (by kernel_rfl) (fun _ _ _ h => h) (Or.inl ⟨by rfl, ?_⟩) (by assumption) ?_
  rotate_left
  · intro wS hSw; (try dsimp only at hSw); go_simp; try (with_reducible rfl)
  try simp only [Act.put, List.setIfInBounds_toArray, List.set_cons_zero, List.set_cons_succ]
  refine wpAnyH_take (i := 7) (oi := { dst := _, op := _, type := _, pos := _, after := _, guard := _ }) (v := ?_) rfl (by kernel_rfl) (by kernel_rfl) (by kernel_rfl) (fun _ _ _ h => h) (Or.inl ⟨by rfl, ?_⟩) (by assumption) ?_
  rotate_left
  · intro wS hSw; (try dsimp only at hSw); go_simp; try (with_reducible rfl)
  try simp only [Act.put, List.setIfInBounds_toArray, List.set_cons_zero, List.set_cons_succ]
  clear hmk
  refine wpAnyH_done (by kernel_rfl) ?_ _
  refine NoPanic.normal ?_
  have HB3 := hid hHeld
  clear hHeld
  generalize V3 = W3 at *
  go_wp2_with fail
  refine (example_any _).mono ?_
  rintro e w4 ⟨a1, b1, rfl, hok, -, hb4⟩
  have HO := hid hok
  generalize (⟨some ⟨a1, 0, none⟩, 2, some ⟨b1, 0, none⟩, 3⟩ : GtP) = p4 at *
  clear hok
  go_wp2_with fail
  refine (whereEx p4 _ HO.out).mono ?_
  rintro e w5 ⟨rfl, hb5⟩
  clear HO
  have B5 := HB3.out.trans ((hb4.mono HB3.out.size).trans (hb5.mono (Nat.le_trans HB3.out.size hb4.size)))
  replace c0 := (B5.cell (p := ⟨Xs, 0, none⟩) lXs).trans c0
  replace c1 := (B5.cell (p := ⟨Xs, 1, none⟩) lXs).trans c1
  replace c2 := (B5.cell (p := ⟨Xs, 2, none⟩) lXs).trans c2
  replace d0 := (B5.cell (p := ⟨Xm, 0, none⟩) lXm).trans d0
  replace d1 := (B5.cell (p := ⟨Xm, 1, none⟩) lXm).trans d1
  replace d2 := (B5.cell (p := ⟨Xm, 2, none⟩) lXm).trans d2
  have lXs5 := Nat.lt_of_lt_of_le lXs B5.size
  have lXm5 := Nat.lt_of_lt_of_le lXm B5.size
  have BW := hU.trans (B5.mono hU.size)
  clear B5 hb4 hb5
  go_wp2_with fail
  go_ret
  exact ⟨rfl, BW.alloc BW.size _⟩
end Go.Proofs.Ytpgggffcpcjahaa
