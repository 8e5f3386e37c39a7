/- Gate, part WE: Step. -/
import Derived.Test.YtdoklolinbmhpaaGreatWD
set_option linter.all false
namespace Go.Proofs.YtdoklolinbmhpaaGreat
open Go.RowKit

set_option maxRecDepth 100000 in
set_option maxHeartbeats 4000000 in
theorem stepFn_any (g : Gt) (p : GtP) (s : St) (t : Sp) (w : World) (hok : GtOk w p g) :
    Calls Tryz.prog 8 #[.agg (gtL g p).toArray, .agg #[.int .i64 s.pos, .int .i64 s.charge, .bool s.bolted], .agg #[.int .i64 t.order, .bool t.power, .int .i64 t.outer, .int .i64 t.inner]] w fun e w' => e = .returned (.tuple #[.agg #[.int .i64 (stepP g s t).1.1.pos, .int .i64 (stepP g s t).1.1.charge, .bool (stepP g s t).1.1.bolted], .agg #[.int .i64 (stepP g s t).1.2.1, .int .i64 (stepP g s t).1.2.2.1, .int .i64 (stepP g s t).1.2.2.2], .int .i64 (stepP g s t).2]) ∧ Below w.heap.size w w' := by
  have HE := hid (show stepP g s t = if gtE g ≠ 0 then ((⟨0, 0, false⟩, 0, 0, 0), gtE g) else if spE g s t ≠ 0 then ((⟨0, 0, false⟩, 0, 0, 0), spE g s t) else (stepF g s t 0, 0) from rfl)
  have HGd := hid (fun h => gtGood (g := g) h)
  have HSd := hid (fun h => spGoods (g := g) (s := s) (t := t) h)
  have HOk := hid hok
  clear hok
  have H0 := StpW.start w g p s t
  have R1 := H0.rows
  go_enter Tryz.func8, Tryz.ntmps8
  go_wp2_with (refine wpList_load_mid rfl 25 _ rfl _ 0 rfl (gtL g p) _ R1 Tryz.underlying25 rfl (by kernel_rfl) ?_)
  refine (gateError_any g p _ (HOk.out.later H0.below (Nat.le_refl _))).mono ?_
  rintro e w1 ⟨rfl, hb⟩
  have H1 := hid (H0.later hb)
  clear R1 H0 hb
  generalize gtE g = x0 at *
  by_cases hx : x0 = 0
  · have q : (x0 != 0) = false := by simp [hx]
    have HX := hid hx
    clear hx
    obtain ⟨hfin, hlt0, R1, s0, s1, s2, t0, t1, t2, t3, -, -, -, -, -, -, fr, fm⟩ := H1.out
    clear fr fm
    go_wp2_with (refine wpList_load_mid rfl 25 _ rfl _ 0 rfl (gtL g p) _ R1 Tryz.underlying25 rfl (by kernel_rfl) ?_)
    refine (stepError_any g p s t _).mono ?_
    rintro e w2 ⟨rfl, hb⟩
    have H2 := hid (H1.out.later hb)
    clear R1 hb hfin s0 s1 s2 t0 t1 t2 t3 hlt0
    generalize spE g s t = y0 at *
    by_cases hy : y0 = 0
    · have q2 : (y0 != 0) = false := by simp [hy]
      have HY := hid hy
      clear hy
      obtain ⟨hfin, hlt0, R1, s0, s1, s2, t0, t1, t2, t3, r0, r1, r2, m0, m1, m2, fr, fm⟩ := H2.out
      have HSt := hid (step_any g p s t 0 w2 (HGd.out HX.out) (HSd.out HY.out).1 (HSd.out HY.out).2 (HOk.out.own.later hfin (Nat.le_refl _)))
      generalize stepF g s t 0 = u at *
      clear fr fm r0 r1 r2 m0 m1 m2
      go_wp2_with (first | (refine wpList_load_mid rfl 25 _ rfl _ 0 rfl (gtL g p) _ R1 Tryz.underlying25 rfl (by kernel_rfl) ?_) | (apply wpList_builtC (hb := built_machine g p s t); exact rfl; exact rfl; kernel_rfl))
      refine (HSt.out).mono ?_
      rintro e w3 ⟨rfl, hb3⟩
      have H3 := hid (H2.out.later hb3)
      clear R1 hfin hlt0 s0 s1 s2 t0 t1 t2 t3 hb3
      have hl3 := H3.out.lt
      go_wp2_with fail
      have BU := H3.out.later (((Below.refl w3.heap.size w3).alloc (Nat.le_refl _) (.cells #[.int .i64 u.1.pos, .int .i64 u.1.charge, .bool u.1.bolted] 27)).alloc (by simp) (.cells #[.int .i64 u.2.1, .int .i64 u.2.2.1, .int .i64 u.2.2.2] 31))
      have k0 : ((w3.alloc (.cells #[.int .i64 u.1.pos, .int .i64 u.1.charge, .bool u.1.bolted] 27)).alloc (.cells #[.int .i64 u.2.1, .int .i64 u.2.2.1, .int .i64 u.2.2.2] 31)).cell? ⟨w3.heap.size, 0, none⟩ = some (.int .i64 u.1.pos) := by simp [go_sem]
      have k1 : ((w3.alloc (.cells #[.int .i64 u.1.pos, .int .i64 u.1.charge, .bool u.1.bolted] 27)).alloc (.cells #[.int .i64 u.2.1, .int .i64 u.2.2.1, .int .i64 u.2.2.2] 31)).cell? ⟨w3.heap.size, 1, none⟩ = some (.int .i64 u.1.charge) := by simp [go_sem]
      have k2 : ((w3.alloc (.cells #[.int .i64 u.1.pos, .int .i64 u.1.charge, .bool u.1.bolted] 27)).alloc (.cells #[.int .i64 u.2.1, .int .i64 u.2.2.1, .int .i64 u.2.2.2] 31)).cell? ⟨w3.heap.size, 2, none⟩ = some (.bool u.1.bolted) := by simp [go_sem]
      have l0 : ((w3.alloc (.cells #[.int .i64 u.1.pos, .int .i64 u.1.charge, .bool u.1.bolted] 27)).alloc (.cells #[.int .i64 u.2.1, .int .i64 u.2.2.1, .int .i64 u.2.2.2] 31)).cell? ⟨w3.heap.size + 1, 0, none⟩ = some (.int .i64 u.2.1) := by simp [go_sem]
      have l1 : ((w3.alloc (.cells #[.int .i64 u.1.pos, .int .i64 u.1.charge, .bool u.1.bolted] 27)).alloc (.cells #[.int .i64 u.2.1, .int .i64 u.2.2.1, .int .i64 u.2.2.2] 31)).cell? ⟨w3.heap.size + 1, 1, none⟩ = some (.int .i64 u.2.2.1) := by simp [go_sem]
      have l2 : ((w3.alloc (.cells #[.int .i64 u.1.pos, .int .i64 u.1.charge, .bool u.1.bolted] 27)).alloc (.cells #[.int .i64 u.2.1, .int .i64 u.2.2.1, .int .i64 u.2.2.2] 31)).cell? ⟨w3.heap.size + 1, 2, none⟩ = some (.int .i64 u.2.2.2) := by simp [go_sem]
      generalize World.alloc (World.alloc _ _) _ = U at *
      obtain ⟨hU, -, -, -, -, -, -, -, -, -, r0, r1, r2, m0, m1, m2, fr, fm⟩ := BU
      refine wp_region_noPanic ?_
      refine wp_region_held_drew (S := (fun w' => Below w.heap.size w w' ∧ w'.cell? ⟨w3.heap.size, 0, none⟩ = some (.int .i64 u.1.pos) ∧ w'.cell? ⟨w3.heap.size, 1, none⟩ = some (.int .i64 u.1.charge) ∧ w'.cell? ⟨w3.heap.size, 2, none⟩ = some (.bool u.1.bolted) ∧ w'.cell? ⟨w3.heap.size + 1, 0, none⟩ = some (.int .i64 u.2.1) ∧ w'.cell? ⟨w3.heap.size + 1, 1, none⟩ = some (.int .i64 u.2.2.1) ∧ w'.cell? ⟨w3.heap.size + 1, 2, none⟩ = some (.int .i64 u.2.2.2) ∧ (∃ z, w'.cell? ⟨w.heap.size + 1 + 1 + 1, 0, none⟩ = some z) ∧ (∃ z, w'.cell? ⟨w.heap.size + 1 + 1 + 1, 1, none⟩ = some z) ∧ (∃ z, w'.cell? ⟨w.heap.size + 1 + 1 + 1, 2, none⟩ = some z) ∧ (∃ z, w'.cell? ⟨w.heap.size + 1 + 1 + 1 + 1, 0, none⟩ = some z) ∧ (∃ z, w'.cell? ⟨w.heap.size + 1 + 1 + 1 + 1, 1, none⟩ = some z) ∧ (∃ z, w'.cell? ⟨w.heap.size + 1 + 1 + 1 + 1, 2, none⟩ = some z) ∧ (∀ o, w'.frozen? ⟨w.heap.size + 1 + 1 + 1, o, none⟩ = false) ∧ ∀ o, w'.frozen? ⟨w.heap.size + 1 + 1 + 1 + 1, o, none⟩ = false)) (by kernel_rfl) ?_ (fun hHeld => ?_)
      · exact ⟨hU.drew, by simpa using k0, by simpa using k1, by simpa using k2, by simpa using l0, by simpa using l1, by simpa using l2, ⟨_, by simpa using r0⟩, ⟨_, by simpa using r1⟩, ⟨_, by simpa using r2⟩, ⟨_, by simpa using m0⟩, ⟨_, by simpa using m1⟩, ⟨_, by simpa using m2⟩, by simpa using fr, by simpa using fm⟩
      refine wpAnyH_take (i := 0) (oi := { dst := _, op := _, type := _, pos := _, after := _, guard := _ }) (v := ?_) rfl (by kernel_rfl) (by kernel_rfl) (by kernel_rfl) (fun _ _ _ h => h) (Or.inl ⟨by rfl, ?_⟩) (by assumption) ?_
      rotate_left
      · intro wS hSw; (try dsimp only at hSw); go_simp; try (with_reducible rfl)
      try simp only [Act.put, List.setIfInBounds_toArray, List.set_cons_zero, List.set_cons_succ]
      refine wpAnyH_take (i := 1) (oi := { dst := _, op := _, type := _, pos := _, after := _, guard := _ }) (v := ?_) rfl (by kernel_rfl) (by kernel_rfl) (by kernel_rfl) (fun _ _ _ h => h) (Or.inl ⟨by rfl, ?_⟩) (by assumption) ?_
      rotate_left
      · intro wS hSw; (try dsimp only at hSw); go_simp; try (with_reducible rfl)
      try simp only [Act.put, List.setIfInBounds_toArray, List.set_cons_zero, List.set_cons_succ]
      clear k0 k1 k2 l0 l1 l2 r0 r1 r2 m0 m1 m2 fr fm hU
      generalize World.drew _ = U2 at *
      have hU2 := hid (by assumption : Below w.heap.size w _ ∧ _ ∧ _ ∧ _ ∧ _ ∧ _ ∧ _ ∧ _ ∧ _ ∧ _ ∧ _ ∧ _ ∧ _ ∧ _ ∧ _)
      obtain ⟨-, -, -, -, -, -, -, ⟨p0, q0⟩, ⟨p1, q1⟩, ⟨p2, q2⟩, ⟨p3, q3⟩, ⟨p4, q4⟩, ⟨p5, q5⟩, g1, g2⟩ := (by assumption : Below w.heap.size w _ ∧ _ ∧ _ ∧ _ ∧ _ ∧ _ ∧ _ ∧ _ ∧ _ ∧ _ ∧ _ ∧ _ ∧ _ ∧ _ ∧ _)
      refine wpAnyH_ready (rs := [2]) (by kernel_rfl) (by simp) ?_
      refine AllReadyH.cons (o := { dst := _, op := _, type := _, pos := _, after := _, guard := _ }) rfl (fun K hK => ?_) AllReadyH.nil
      go_simp
      refine hK.out _ _ ?_ (fun hHeld => ?_)
      · (try dsimp only); first | assumption | exact keepS8 (by omega) (by omega) (by omega) (by assumption)
      clear hK K
      clear q0 q1 q2 q3 q4 q5 g1 g2
      try simp only [Act.put, List.setIfInBounds_toArray, List.set_cons_zero, List.set_cons_succ]
      obtain ⟨-, -, -, -, -, -, -, ⟨p0, q0⟩, ⟨p1, q1⟩, ⟨p2, q2⟩, ⟨p3, q3⟩, ⟨p4, q4⟩, ⟨p5, q5⟩, g1, g2⟩ := (by assumption : Below w.heap.size w _ ∧ _ ∧ _ ∧ _ ∧ _ ∧ _ ∧ _ ∧ _ ∧ _ ∧ _ ∧ _ ∧ _ ∧ _ ∧ _ ∧ _)
      refine wpAnyH_ready (rs := [3]) (by kernel_rfl) (by simp) ?_
      refine AllReadyH.cons (o := { dst := _, op := _, type := _, pos := _, after := _, guard := _ }) rfl (fun K hK => ?_) AllReadyH.nil
      go_simp
      refine hK.out _ _ ?_ (fun hHeld => ?_)
      · (try dsimp only); first | assumption | exact keepS8 (by omega) (by omega) (by omega) (by assumption)
      clear hK K
      clear q0 q1 q2 q3 q4 q5 g1 g2
      try simp only [Act.put, List.setIfInBounds_toArray, List.set_cons_zero, List.set_cons_succ]
      refine wpAnyH_take (i := 4) (oi := { dst := _, op := _, type := _, pos := _, after := _, guard := _ }) (v := ?_) rfl (by kernel_rfl) (by kernel_rfl) (by kernel_rfl) (fun _ _ _ h => h) (Or.inl ⟨by rfl, ?_⟩) (by assumption) ?_
      rotate_left
      · intro wS hSw; (try dsimp only at hSw); go_simp; try (with_reducible rfl)
      try simp only [Act.put, List.setIfInBounds_toArray, List.set_cons_zero, List.set_cons_succ]
      refine wpAnyH_done (by kernel_rfl) ?_ _
      refine NoPanic.normal ?_

      have hF := (by assumption : Below w.heap.size w _ ∧ _ ∧ _ ∧ _ ∧ _ ∧ _ ∧ _ ∧ _ ∧ _ ∧ _ ∧ _ ∧ _ ∧ _ ∧ _ ∧ _).1
      have hE := hU2.out
      have hfin := fin10 (A := w.heap.size + 1 + 1 + 1) (B := w.heap.size + 1 + 1 + 1 + 1) (by omega) hE.2.2.2.2.2.2.2.1 hE.2.2.2.2.2.2.2.2.1 hE.2.2.2.2.2.2.2.2.2.1 hE.2.2.2.2.2.2.2.2.2.2.1 hE.2.2.2.2.2.2.2.2.2.2.2.1 hE.2.2.2.2.2.2.2.2.2.2.2.2.1 (.int .i64 u.1.pos) (.int .i64 u.1.charge) (.bool u.1.bolted) (.int .i64 u.2.1) (.int .i64 u.2.2.1) (.int .i64 u.2.2.2)
      clear hE hHeld
      try clear hHeld
      generalize World.setCell (World.setCell _ _ _) _ _ = F at *
      obtain ⟨f0, f1, f2, f3, f4, f5⟩ := hfin
      go_wp2_with fail
      refine bodyPost_ret (v := .tuple #[.agg #[.int .i64 u.1.pos, .int .i64 u.1.charge, .bool u.1.bolted], .agg #[.int .i64 u.2.1, .int .i64 u.2.2.1, .int .i64 u.2.2.2], .int .i64 0]) (by simp [results, Tryz.results8, go_sem, f0, f1, f2, f3, f4, f5]) rfl ⟨by rw [HE.out]; simp [HX.out, HY.out], hF⟩
    · have q2 : (y0 != 0) = true := by simp [hy]
      have HY := hid hy
      clear hy
      obtain ⟨hfin, hlt0, R1, -, -, -, -, -, -, -, r0, r1, r2, m0, m1, m2, fr, fm⟩ := H2.out
      clear R1
      go_wp2_with fail
      obtain ⟨hF, f0, f1, f2, f3, f4, f5⟩ := H2.out.errs
      generalize World.setCell (World.setCell (World.setCell (World.setCell (World.setCell (World.setCell _ _ _) _ _) _ _) _ _) _ _) _ _ = F at *
      refine bodyPost_ret (v := .tuple #[.agg #[.int .i64 0, .int .i64 0, .bool false], .agg #[.int .i64 0, .int .i64 0, .int .i64 0], .int .i64 y0]) (by simp [results, Tryz.results8, go_sem, f0, f1, f2, f3, f4, f5]) rfl ⟨by rw [HE.out]; simp [HX.out, HY.out], hF⟩
  · have q : (x0 != 0) = true := by simp [hx]
    have HX := hid hx
    clear hx
    obtain ⟨hfin, hlt0, R1, -, -, -, -, -, -, -, r0, r1, r2, m0, m1, m2, fr, fm⟩ := H1.out
    clear R1
    go_wp2_with fail
    obtain ⟨hF, f0, f1, f2, f3, f4, f5⟩ := H1.out.errs
    generalize World.setCell (World.setCell (World.setCell (World.setCell (World.setCell (World.setCell _ _ _) _ _) _ _) _ _) _ _) _ _ = F at *
    refine bodyPost_ret (v := .tuple #[.agg #[.int .i64 0, .int .i64 0, .bool false], .agg #[.int .i64 0, .int .i64 0, .int .i64 0], .int .i64 x0]) (by simp [results, Tryz.results8, go_sem, f0, f1, f2, f3, f4, f5]) rfl ⟨by rw [HE.out]; simp [HX.out], hF⟩

end Go.Proofs.YtdoklolinbmhpaaGreat
