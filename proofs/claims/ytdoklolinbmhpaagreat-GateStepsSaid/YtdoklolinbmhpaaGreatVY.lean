/- Gate, part VY: step. -/
import Derived.Test.YtdoklolinbmhpaaGreatVX
import Derived.Shelf.Abstract
import Derived.StillTailTactics
set_option linter.all false
namespace Go.Proofs.YtdoklolinbmhpaaGreat
open Go.RowKit

theorem cell_ex {x : World} {p q : Addr} {v : Value} (h : ∃ u, x.cell? p = some u) : ∃ u, (x.setCell q v).cell? p = some u := by
  obtain ⟨u, hu⟩ := h
  by_cases e : p = q
  · subst e; exact ⟨v, World.cell?_setCell_same' _ _ _ (by rw [hu]; rfl)⟩
  · exact ⟨u, (World.cell?_setCell_other _ _ _ _ (by intro h; exact e h.symm)).trans hu⟩
theorem keep10 {w x : World} {X Y B : Nat} {a0 a1 a2 b0 b1 v0 v1 v2 : Value} (hX : B < X) (hY : B < Y) (hB : w.heap.size ≤ B) (h : Below w.heap.size w x ∧ x.cell? ⟨Y, 0, none⟩ = some a0 ∧ x.cell? ⟨Y, 1, none⟩ = some a1 ∧ x.cell? ⟨Y, 2, none⟩ = some a2 ∧ x.cell? ⟨X, 0, none⟩ = some b0 ∧ x.cell? ⟨X, 1, none⟩ = some b1 ∧ (∃ u, x.cell? ⟨w.heap.size + 1, 0, none⟩ = some u) ∧ (∃ u, x.cell? ⟨w.heap.size + 1, 1, none⟩ = some u) ∧ (∃ u, x.cell? ⟨w.heap.size + 1, 2, none⟩ = some u) ∧ (∃ u, x.cell? ⟨w.heap.size + 1 + 1, 0, none⟩ = some u) ∧ (∃ u, x.cell? ⟨w.heap.size + 1 + 1, 1, none⟩ = some u) ∧ (∃ u, x.cell? ⟨w.heap.size + 1 + 1, 2, none⟩ = some u) ∧ (∀ o, x.frozen? ⟨w.heap.size + 1, o, none⟩ = false) ∧ (∀ o, x.frozen? ⟨w.heap.size + 1 + 1, o, none⟩ = false)) : Below w.heap.size w (((x.setCell ⟨B, 0, none⟩ v0).setCell ⟨B, 1, none⟩ v1).setCell ⟨B, 2, none⟩ v2) ∧ (((x.setCell ⟨B, 0, none⟩ v0).setCell ⟨B, 1, none⟩ v1).setCell ⟨B, 2, none⟩ v2).cell? ⟨Y, 0, none⟩ = some a0 ∧ (((x.setCell ⟨B, 0, none⟩ v0).setCell ⟨B, 1, none⟩ v1).setCell ⟨B, 2, none⟩ v2).cell? ⟨Y, 1, none⟩ = some a1 ∧ (((x.setCell ⟨B, 0, none⟩ v0).setCell ⟨B, 1, none⟩ v1).setCell ⟨B, 2, none⟩ v2).cell? ⟨Y, 2, none⟩ = some a2 ∧ (((x.setCell ⟨B, 0, none⟩ v0).setCell ⟨B, 1, none⟩ v1).setCell ⟨B, 2, none⟩ v2).cell? ⟨X, 0, none⟩ = some b0 ∧ (((x.setCell ⟨B, 0, none⟩ v0).setCell ⟨B, 1, none⟩ v1).setCell ⟨B, 2, none⟩ v2).cell? ⟨X, 1, none⟩ = some b1 ∧ (∃ u, (((x.setCell ⟨B, 0, none⟩ v0).setCell ⟨B, 1, none⟩ v1).setCell ⟨B, 2, none⟩ v2).cell? ⟨w.heap.size + 1, 0, none⟩ = some u) ∧ (∃ u, (((x.setCell ⟨B, 0, none⟩ v0).setCell ⟨B, 1, none⟩ v1).setCell ⟨B, 2, none⟩ v2).cell? ⟨w.heap.size + 1, 1, none⟩ = some u) ∧ (∃ u, (((x.setCell ⟨B, 0, none⟩ v0).setCell ⟨B, 1, none⟩ v1).setCell ⟨B, 2, none⟩ v2).cell? ⟨w.heap.size + 1, 2, none⟩ = some u) ∧ (∃ u, (((x.setCell ⟨B, 0, none⟩ v0).setCell ⟨B, 1, none⟩ v1).setCell ⟨B, 2, none⟩ v2).cell? ⟨w.heap.size + 1 + 1, 0, none⟩ = some u) ∧ (∃ u, (((x.setCell ⟨B, 0, none⟩ v0).setCell ⟨B, 1, none⟩ v1).setCell ⟨B, 2, none⟩ v2).cell? ⟨w.heap.size + 1 + 1, 1, none⟩ = some u) ∧ (∃ u, (((x.setCell ⟨B, 0, none⟩ v0).setCell ⟨B, 1, none⟩ v1).setCell ⟨B, 2, none⟩ v2).cell? ⟨w.heap.size + 1 + 1, 2, none⟩ = some u) ∧ (∀ o, (((x.setCell ⟨B, 0, none⟩ v0).setCell ⟨B, 1, none⟩ v1).setCell ⟨B, 2, none⟩ v2).frozen? ⟨w.heap.size + 1, o, none⟩ = false) ∧ (∀ o, (((x.setCell ⟨B, 0, none⟩ v0).setCell ⟨B, 1, none⟩ v1).setCell ⟨B, 2, none⟩ v2).frozen? ⟨w.heap.size + 1 + 1, o, none⟩ = false) := by
  obtain ⟨h0, h1, h2, h3, h4, h5, e1, e2, e3, e4, e5, e6, f1, f2⟩ := h
  have o : ∀ c j, B < c → (((x.setCell ⟨B, 0, none⟩ v0).setCell ⟨B, 1, none⟩ v1).setCell ⟨B, 2, none⟩ v2).cell? ⟨c, j, none⟩ = x.cell? ⟨c, j, none⟩ := fun c j hc => (World.cell?_setCell_other _ _ _ _ (by intro e; injection e with e1 e2; omega)).trans ((World.cell?_setCell_other _ _ _ _ (by intro e; injection e with e1 e2; omega)).trans (World.cell?_setCell_other _ _ _ _ (by intro e; injection e with e1 e2; omega)))
  exact ⟨((h0.setCell hB _).setCell hB _).setCell hB _, (o _ _ hY).trans h1, (o _ _ hY).trans h2, (o _ _ hY).trans h3, (o _ _ hX).trans h4, (o _ _ hX).trans h5, cell_ex (cell_ex (cell_ex e1)), cell_ex (cell_ex (cell_ex e2)), cell_ex (cell_ex (cell_ex e3)), cell_ex (cell_ex (cell_ex e4)), cell_ex (cell_ex (cell_ex e5)), cell_ex (cell_ex (cell_ex e6)), fun o => by simpa using f1 o, fun o => by simpa using f2 o⟩

theorem cs_s {x : World} {p : Addr} {v : Value} (h : ∃ u, x.cell? p = some u) : (x.setCell p v).cell? p = some v := by
  obtain ⟨u, hu⟩ := h
  exact World.cell?_setCell_same' _ _ _ (by rw [hu]; rfl)
theorem cs_o {x : World} {b c i j : Nat} {v : Value} (h : b ≠ c ∨ i ≠ j) : (x.setCell ⟨c, j, none⟩ v).cell? ⟨b, i, none⟩ = x.cell? ⟨b, i, none⟩ :=
  World.cell?_setCell_other _ _ _ _ (by intro e; injection e with e1 e2; omega)
theorem fin10 {U : World} {A B : Nat} (hAB : A ≠ B) (a0 : ∃ u, U.cell? ⟨A, 0, none⟩ = some u) (a1 : ∃ u, U.cell? ⟨A, 1, none⟩ = some u) (a2 : ∃ u, U.cell? ⟨A, 2, none⟩ = some u) (b0 : ∃ u, U.cell? ⟨B, 0, none⟩ = some u) (b1 : ∃ u, U.cell? ⟨B, 1, none⟩ = some u) (b2 : ∃ u, U.cell? ⟨B, 2, none⟩ = some u) (v0 v1 v2 r0 r1 r2 : Value) :
    ((((((U.setCell ⟨A, 0, none⟩ v0).setCell ⟨A, 1, none⟩ v1).setCell ⟨A, 2, none⟩ v2).setCell ⟨B, 0, none⟩ r0).setCell ⟨B, 1, none⟩ r1).setCell ⟨B, 2, none⟩ r2).cell? ⟨A, 0, none⟩ = some v0 ∧ ((((((U.setCell ⟨A, 0, none⟩ v0).setCell ⟨A, 1, none⟩ v1).setCell ⟨A, 2, none⟩ v2).setCell ⟨B, 0, none⟩ r0).setCell ⟨B, 1, none⟩ r1).setCell ⟨B, 2, none⟩ r2).cell? ⟨A, 1, none⟩ = some v1 ∧ ((((((U.setCell ⟨A, 0, none⟩ v0).setCell ⟨A, 1, none⟩ v1).setCell ⟨A, 2, none⟩ v2).setCell ⟨B, 0, none⟩ r0).setCell ⟨B, 1, none⟩ r1).setCell ⟨B, 2, none⟩ r2).cell? ⟨A, 2, none⟩ = some v2 ∧ ((((((U.setCell ⟨A, 0, none⟩ v0).setCell ⟨A, 1, none⟩ v1).setCell ⟨A, 2, none⟩ v2).setCell ⟨B, 0, none⟩ r0).setCell ⟨B, 1, none⟩ r1).setCell ⟨B, 2, none⟩ r2).cell? ⟨B, 0, none⟩ = some r0 ∧ ((((((U.setCell ⟨A, 0, none⟩ v0).setCell ⟨A, 1, none⟩ v1).setCell ⟨A, 2, none⟩ v2).setCell ⟨B, 0, none⟩ r0).setCell ⟨B, 1, none⟩ r1).setCell ⟨B, 2, none⟩ r2).cell? ⟨B, 1, none⟩ = some r1 ∧ ((((((U.setCell ⟨A, 0, none⟩ v0).setCell ⟨A, 1, none⟩ v1).setCell ⟨A, 2, none⟩ v2).setCell ⟨B, 0, none⟩ r0).setCell ⟨B, 1, none⟩ r1).setCell ⟨B, 2, none⟩ r2).cell? ⟨B, 2, none⟩ = some r2 := by
  refine ⟨?_, ?_, ?_, ?_, ?_, ?_⟩
  · rw [cs_o (by omega), cs_o (by omega), cs_o (by omega), cs_o (by omega), cs_o (by omega)]; exact cs_s a0
  · rw [cs_o (by omega), cs_o (by omega), cs_o (by omega), cs_o (by omega)]; exact cs_s (cell_ex a1)
  · rw [cs_o (by omega), cs_o (by omega), cs_o (by omega)]; exact cs_s (cell_ex (cell_ex a2))
  · rw [cs_o (by omega), cs_o (by omega)]; exact cs_s (cell_ex (cell_ex (cell_ex b0)))
  · rw [cs_o (by omega)]; exact cs_s (cell_ex (cell_ex (cell_ex (cell_ex b1))))
  · exact cs_s (cell_ex (cell_ex (cell_ex (cell_ex (cell_ex b2)))))

theorem enters_act (s : St) (t : Sp) (args : Array Value) (w : World) : Sem.run Tryz.prog (callFunc (actN s t) args) w = .ok (.enter (actN s t) args) w := by
  unfold actN
  repeat' split
  all_goals go_simp

set_option maxRecDepth 100000 in
set_option maxHeartbeats 4000000 in
theorem step_any (g : Gt) (p : GtP) (s : St) (t : Sp) (lock : Int) (w : World) (hg : GtGood g) (hs : StGood g s) (ht : SpGood t) (hat : IntsAt w p.oa g.own) :
    Calls Tryz.prog 28 #[.agg (mL g p s t).toArray, .int .i64 lock] w fun e w' => e = .returned (.tuple #[.agg #[.int .i64 (stepF g s t lock).1.pos, .int .i64 (stepF g s t lock).1.charge, .bool (stepF g s t lock).1.bolted], .agg #[.int .i64 (stepF g s t lock).2.1, .int .i64 (stepF g s t lock).2.2.1, .int .i64 (stepF g s t lock).2.2.2]]) ∧ Below w.heap.size w w' := by
  have HE := hid (show stepF g s t lock = (⟨s.pos + (actF g s (heldT t (refF s t lock))).1, if t.power = true then min (s.charge - (actF g s (heldT t (refF s t lock))).2 + g.pump) g.cap else s.charge - (actF g s (heldT t (refF s t lock))).2, s.bolted⟩, refF s t lock, (actF g s (heldT t (refF s t lock))).1, (actF g s (heldT t (refF s t lock))).2) from rfl)
  go_enter Tryz.func28, Tryz.ntmps28
  have B0 := StB.start w (mL g p s t) 74 27 31
  have R := B0.rows
  have HRf := hid (show Calls Tryz.prog 61 #[.agg (mL g p s t).toArray, .int .i64 lock] (((w.alloc (.cells (mL g p s t).toArray 74)).alloc (.cells #[.int .i64 0, .int .i64 0, .bool false] 27)).alloc (.cells #[.int .i64 0, .int .i64 0, .int .i64 0] 31)) (fun e w' => e = .returned (.int .i64 (refF s t lock)) ∧ StB w (mL g p s t) w' ∧ w'.cell? ⟨w.heap.size, 24, none⟩ = some (.int .i64 t.order) ∧ (∀ o, w'.frozen? ⟨w.heap.size, o, none⟩ = false)) from Calls.mono (refusal_any g p s t lock _) (fun e w' h => ⟨h.1, B0.later h.2, range_cell (B0.later h.2).rows rfl, (B0.later h.2).fm⟩))
  obtain ⟨t', ht'⟩ : ∃ x, x = heldT t (refF s t lock) := ⟨_, rfl⟩
  rw [← ht'] at HE
  have hT : SpGood t' ∧ t'.power = t.power := by
    rw [ht']; unfold heldT; split
    · exact ⟨ht, rfl⟩
    · exact ⟨⟨by simp, ht.outer, ht.inner⟩, rfl⟩
  rw [← hT.2] at HE
  have HAc := hid (fun W => action_any g p s t' W)
  have HA := hid (fun W (hW : StB w (mL g p s t') W) => act_any g p s t' W hg hs hT.1 (hat.later hW.below (Nat.le_refl _)))
  have hab := act_bd hg hs t'
  generalize actF g s t' = d at *
  generalize refF s t lock = r at *
  have hp1 := hg.pump; have hp2 := hs.charge; have hp3 := hg.cap; have hp4 := hg.travel
  have w1 : IntKind.i64.wrap (s.pos + d.1) = s.pos + d.1 := IntWalk.i64_in _ (by omega)
  have w2 : IntKind.i64.wrap (s.charge - d.2) = s.charge - d.2 := IntWalk.i64_in _ (by omega)
  have w3 : IntKind.i64.wrap (s.charge - d.2 + g.pump) = s.charge - d.2 + g.pump := IntWalk.i64_in _ (by omega)
  clear B0 ht hat hp1 hp2 hp3 hp4 hab
  by_cases hr : r = 0
  · have e : t' = t := by rw [ht', hr]; rfl
    clear ht'
    subst e
    go_wp2_with (first | (refine wpList_load_mid rfl 74 _ rfl _ 0 rfl (mL g p s t') _ R Tryz.underlying74 rfl (by kernel_rfl) ?_) | (go_at_call 61; (with_reducible refine (HRf.out).mono ?_); rintro e w' ⟨rfl, B2, c24, z24⟩))
    clear HRf R c24 z24
    obtain ⟨V, hV⟩ : ∃ X, X = w' := ⟨_, rfl⟩
    subst hV
    refine wp_region_noPanic ?_
    refine wp_region_held_drew (S := StB w (mL g p s t')) (by kernel_rfl) ?_ (fun hHeld => ?_)
    · exact B2.drew
    refine wpAnyH_take (i := 0) (oi := { dst := _, op := _, type := _, pos := _, after := _, guard := _ }) (v := .agg (mL g p s t').toArray) rfl (by kernel_rfl) (by kernel_rfl) (by kernel_rfl) (fun _ _ _ h => h) (yieldsIf_load_mid (by rfl) 74 _ rfl w.heap.size 0 rfl (mL g p s t') _ (fun _ hS => hS.rows) Tryz.underlying74 rfl (by kernel_rfl)) (by assumption) ?_
    try simp only [Act.put, List.setIfInBounds_toArray, List.set_cons_zero, List.set_cons_succ]
    refine wpAnyH_take (i := 2) (oi := { dst := _, op := _, type := _, pos := _, after := _, guard := _ }) (v := .agg (mL g p s t').toArray) rfl (by kernel_rfl) (by kernel_rfl) (by kernel_rfl) (fun _ _ _ h => h) (yieldsIf_load_mid (by rfl) 74 _ rfl w.heap.size 0 rfl (mL g p s t') _ (fun _ hS => hS.rows) Tryz.underlying74 rfl (by kernel_rfl)) (by assumption) ?_
    try simp only [Act.put, List.setIfInBounds_toArray, List.set_cons_zero, List.set_cons_succ]
    refine wpAnyH_ready (rs := [1, 4]) (by kernel_rfl) (by simp) ?_
    refine AllReadyH.cons (o := { dst := _, op := _, type := _, pos := _, after := _, guard := _ }) rfl (fun K hK => ?_) ?_
    · go_simp
      (go_at_call 62; (with_reducible refine (HAc.out _).mono ?_); rintro e w' ⟨rfl, hbe⟩)
      try go_wp2_with fail
      refine hK.out _ _ ?_ (fun hHeld => ?_)
      · (try dsimp only); first | assumption | exact StB.later (by assumption) (by assumption) | exact StB.later (by assumption) ((Below.refl _ _).alloc (Nat.le_refl _) _) | exact StB.sets (by assumption) hX
      clear hK K
      try simp only [Act.put, List.setIfInBounds_toArray, List.set_cons_zero, List.set_cons_succ]
      refine wpAnyH_ready (rs := [3, 4]) (by kernel_rfl) (by simp) ?_
      refine AllReadyH.cons (o := { dst := _, op := _, type := _, pos := _, after := _, guard := _ }) rfl (fun K hK => ?_) ?_
      · go_simp
        (simp only [enters_act]; go_simp; go_at_fn (actN s t'); have hSc := (by assumption : StB w (mL g p s t') _); (with_reducible refine (HA.out _ hSc).mono ?_); clear hSc; rintro e w' ⟨rfl, hbe⟩)
        try go_wp2_with fail
        refine hK.out _ _ ?_ (fun hHeld => ?_)
        · (try dsimp only); first | assumption | exact StB.later (by assumption) (by assumption) | exact StB.later (by assumption) ((Below.refl _ _).alloc (Nat.le_refl _) _) | exact StB.sets (by assumption) hX
        clear hK K
        try simp only [Act.put, List.setIfInBounds_toArray, List.set_cons_zero, List.set_cons_succ]
        refine wpAnyH_ready (rs := [4]) (by kernel_rfl) (by simp) ?_
        refine AllReadyH.cons (o := { dst := _, op := _, type := _, pos := _, after := _, guard := _ }) rfl (fun K hK => ?_) AllReadyH.nil
        have hX := (by assumption : StB w (mL g p s t') _).lt
        go_simp
        refine hK.out _ _ ?_ (fun hHeld => ?_)
        · (try dsimp only); first | assumption | exact StB.later (by assumption) (by assumption) | exact StB.later (by assumption) ((Below.refl _ _).alloc (Nat.le_refl _) _) | exact StB.sets (by assumption) hX
        clear hK K
        try simp only [Act.put, List.setIfInBounds_toArray, List.set_cons_zero, List.set_cons_succ]
        have BX := Box0.new w' 107
        obtain ⟨x0, x1, y0, y1, xl⟩ := BX
        refine wpAnyH_ready (rs := [5]) (by kernel_rfl) (by simp) ?_
        refine AllReadyH.cons (o := { dst := _, op := _, type := _, pos := _, after := _, guard := _ }) rfl (fun K hK => ?_) AllReadyH.nil
        go_simp
        refine hK.out _ _ ?_ (fun hHeld => ?_)
        · (try dsimp only); first | assumption | exact StB.later (by assumption) (by assumption) | exact StB.later (by assumption) ((Below.refl _ _).alloc (Nat.le_refl _) _) | exact StB.sets (by assumption) hX
        clear hK K
        try simp only [Act.put, List.setIfInBounds_toArray, List.set_cons_zero, List.set_cons_succ]
        have BV := BoxV.new w' 107 d.1 d.2
        clear x0 x1 y0 y1
        refine wpAnyH_done (by kernel_rfl) ?_ _
        refine NoPanic.normal ?_
        have BZ := (by assumption : StB w (mL g p s t') _)
        generalize World.alloc w' (.cells #[.int .i64 d.1, .int .i64 d.2] 107) = Z at *
        clear hHeld
        generalize w'.heap.size = X at *
        obtain ⟨v0, v1, xl⟩ := BV
        have l0 : w.heap.size < Z.heap.size := by have := BZ.lt; omega
        have l1 : w.heap.size + 1 < Z.heap.size := by have := BZ.lt; omega
        have l2 := BZ.lt
        have c21 := range_cell BZ.rows (show (mL g p s t')[21]? = some (.int .i64 s.pos) from rfl)
        have c22 := range_cell BZ.rows (show (mL g p s t')[22]? = some (.int .i64 s.charge) from rfl)
        have c23 := range_cell BZ.rows (show (mL g p s t')[23]? = some (.bool s.bolted) from rfl)
        have c25 := range_cell BZ.rows (show (mL g p s t')[25]? = some (.bool t'.power) from rfl)
        have c16 := range_cell BZ.rows (show (mL g p s t')[16]? = some (.int .i64 g.pump) from rfl)
        have c17 := range_cell BZ.rows (show (mL g p s t')[17]? = some (.int .i64 g.cap) from rfl)
        rcases hpw : t'.power with _ | _
        · rw [hpw] at c25
          go_wp2_with fail
          have BU : StB w (mL g p s t') (Z.alloc (.cells #[.int .i64 (s.pos + d.1), .int .i64 (s.charge - d.2), .bool s.bolted] 27)) := BZ.later ((Below.refl _ _).alloc (Nat.le_refl _) _)
          have k0 : (Z.alloc (.cells #[.int .i64 (s.pos + d.1), .int .i64 (s.charge - d.2), .bool s.bolted] 27)).cell? ⟨Z.heap.size, 0, none⟩ = some (.int .i64 (s.pos + d.1)) := by simp [go_sem]
          have k1 : (Z.alloc (.cells #[.int .i64 (s.pos + d.1), .int .i64 (s.charge - d.2), .bool s.bolted] 27)).cell? ⟨Z.heap.size, 1, none⟩ = some (.int .i64 (s.charge - d.2)) := by simp [go_sem]
          have k2 : (Z.alloc (.cells #[.int .i64 (s.pos + d.1), .int .i64 (s.charge - d.2), .bool s.bolted] 27)).cell? ⟨Z.heap.size, 2, none⟩ = some (.bool s.bolted) := by simp [go_sem]
          have BW : Below Z.heap.size Z (Z.alloc (.cells #[.int .i64 (s.pos + d.1), .int .i64 (s.charge - d.2), .bool s.bolted] 27)) := (Below.refl _ _).alloc (Nat.le_refl _) _
          have u0 := (BW.cell xl).trans v0
          have u1 := (BW.cell xl).trans v1
          generalize World.alloc Z _ = U at *
          obtain ⟨hU, -, -, -, a0, a1, a2, m0, m1, m2, fs, fv⟩ := BU
          clear v0 v1 BZ c21 c22 c23 c25 c16 c17 l0 l1
          refine wp_region_noPanic ?_
          refine wp_region_held_drew (S := (fun w' => Below w.heap.size w w' ∧ w'.cell? ⟨Z.heap.size, 0, none⟩ = some (.int .i64 (s.pos + d.1)) ∧ w'.cell? ⟨Z.heap.size, 1, none⟩ = some (.int .i64 (s.charge - d.2)) ∧ w'.cell? ⟨Z.heap.size, 2, none⟩ = some (.bool s.bolted) ∧ w'.cell? ⟨X, 0, none⟩ = some (.int .i64 d.1) ∧ w'.cell? ⟨X, 1, none⟩ = some (.int .i64 d.2) ∧ (∃ u, w'.cell? ⟨w.heap.size + 1, 0, none⟩ = some u) ∧ (∃ u, w'.cell? ⟨w.heap.size + 1, 1, none⟩ = some u) ∧ (∃ u, w'.cell? ⟨w.heap.size + 1, 2, none⟩ = some u) ∧ (∃ u, w'.cell? ⟨w.heap.size + 1 + 1, 0, none⟩ = some u) ∧ (∃ u, w'.cell? ⟨w.heap.size + 1 + 1, 1, none⟩ = some u) ∧ (∃ u, w'.cell? ⟨w.heap.size + 1 + 1, 2, none⟩ = some u) ∧ (∀ o, w'.frozen? ⟨w.heap.size + 1, o, none⟩ = false) ∧ (∀ o, w'.frozen? ⟨w.heap.size + 1 + 1, o, none⟩ = false))) (by kernel_rfl) ?_ (fun hHeld => ?_)
          · exact ⟨hU.drew, by simpa using k0, by simpa using k1, by simpa using k2, by simpa using u0, by simpa using u1, ⟨_, by simpa using a0⟩, ⟨_, by simpa using a1⟩, ⟨_, by simpa using a2⟩, ⟨_, by simpa using m0⟩, ⟨_, by simpa using m1⟩, ⟨_, by simpa using m2⟩, by simpa using fs, by simpa using fv⟩
          clear k0 k1 k2 u0 u1 a0 a1 a2 m0 m1 m2 fs fv hU
          refine wpAnyH_take (i := 0) (oi := { dst := _, op := _, type := _, pos := _, after := _, guard := _ }) (v := ?_) rfl (by kernel_rfl) (by kernel_rfl) (by kernel_rfl) (fun _ _ _ h => h) (Or.inl ⟨by rfl, ?_⟩) (by assumption) ?_
          rotate_left
          · intro wS hSw; (try dsimp only at hSw); go_simp; try (with_reducible rfl)
          try simp only [Act.put, List.setIfInBounds_toArray, List.set_cons_zero, List.set_cons_succ]
          refine wpAnyH_take (i := 1) (oi := { dst := _, op := _, type := _, pos := _, after := _, guard := _ }) (v := ?_) rfl (by kernel_rfl) (by kernel_rfl) (by kernel_rfl) (fun _ _ _ h => h) (Or.inl ⟨by rfl, ?_⟩) (by assumption) ?_
          rotate_left
          · intro wS hSw; (try dsimp only at hSw); go_simp; try (with_reducible rfl)
          try simp only [Act.put, List.setIfInBounds_toArray, List.set_cons_zero, List.set_cons_succ]
          refine wpAnyH_take (i := 2) (oi := { dst := _, op := _, type := _, pos := _, after := _, guard := _ }) (v := ?_) rfl (by kernel_rfl) (by kernel_rfl) (by kernel_rfl) (fun _ _ _ h => h) (Or.inl ⟨by rfl, ?_⟩) (by assumption) ?_
          rotate_left
          · intro wS hSw; (try dsimp only at hSw); go_simp; try (with_reducible rfl)
          try simp only [Act.put, List.setIfInBounds_toArray, List.set_cons_zero, List.set_cons_succ]
          refine wpAnyH_take (i := 3) (oi := { dst := _, op := _, type := _, pos := _, after := _, guard := _ }) (v := ?_) rfl (by kernel_rfl) (by kernel_rfl) (by kernel_rfl) (fun _ _ _ h => h) (Or.inl ⟨by rfl, ?_⟩) (by assumption) ?_
          rotate_left
          · intro wS hSw; (try dsimp only at hSw); go_simp; try (with_reducible rfl)
          try simp only [Act.put, List.setIfInBounds_toArray, List.set_cons_zero, List.set_cons_succ]
          refine wpAnyH_take (i := 4) (oi := { dst := _, op := _, type := _, pos := _, after := _, guard := _ }) (v := ?_) rfl (by kernel_rfl) (by kernel_rfl) (by kernel_rfl) (fun _ _ _ h => h) (Or.inl ⟨by rfl, ?_⟩) (by assumption) ?_
          rotate_left
          · intro wS hSw; (try dsimp only at hSw); go_simp; try (with_reducible rfl)
          try simp only [Act.put, List.setIfInBounds_toArray, List.set_cons_zero, List.set_cons_succ]
          refine wpAnyH_take (i := 5) (oi := { dst := _, op := _, type := _, pos := _, after := _, guard := _ }) (v := ?_) rfl (by kernel_rfl) (by kernel_rfl) (by kernel_rfl) (fun _ _ _ h => h) (Or.inl ⟨by rfl, ?_⟩) (by assumption) ?_
          rotate_left
          · intro wS hSw; (try dsimp only at hSw); go_simp; try (with_reducible rfl)
          try simp only [Act.put, List.setIfInBounds_toArray, List.set_cons_zero, List.set_cons_succ]
          refine wpAnyH_take (i := 6) (oi := { dst := _, op := _, type := _, pos := _, after := _, guard := _ }) (v := ?_) rfl (by kernel_rfl) (by kernel_rfl) (by kernel_rfl) (fun _ _ _ h => h) (Or.inl ⟨by rfl, ?_⟩) (by assumption) ?_
          rotate_left
          · intro wS hSw; (try dsimp only at hSw); go_simp; try (with_reducible rfl)
          try simp only [Act.put, List.setIfInBounds_toArray, List.set_cons_zero, List.set_cons_succ]
          generalize World.drew U = U2 at *
          have hU2 := hid (by assumption : Below w.heap.size w _ ∧ _ ∧ _ ∧ _ ∧ _ ∧ _ ∧ _ ∧ _ ∧ _ ∧ _ ∧ _ ∧ _ ∧ _ ∧ _)
          obtain ⟨-, -, -, -, -, -, ⟨p0, q0⟩, ⟨p1, q1⟩, ⟨p2, q2⟩, ⟨p3, q3⟩, ⟨p4, q4⟩, ⟨p5, q5⟩, g1, g2⟩ := (by assumption : Below w.heap.size w _ ∧ _ ∧ _ ∧ _ ∧ _ ∧ _ ∧ _ ∧ _ ∧ _ ∧ _ ∧ _ ∧ _ ∧ _ ∧ _)
          refine wpAnyH_ready (rs := [7]) (by kernel_rfl) (by simp) ?_
          refine AllReadyH.cons (o := { dst := _, op := _, type := _, pos := _, after := _, guard := _ }) rfl (fun K hK => ?_) AllReadyH.nil
          go_simp
          refine hK.out _ _ ?_ (fun hHeld => ?_)
          · (try dsimp only); exact keep10 (by omega) (by omega) (by omega) (by assumption)
          clear hK K
          try simp only [Act.put, List.setIfInBounds_toArray, List.set_cons_zero, List.set_cons_succ]
          clear q0 q1 q2 q3 q4 q5 g1 g2
          obtain ⟨-, -, -, -, -, -, ⟨p0, q0⟩, ⟨p1, q1⟩, ⟨p2, q2⟩, ⟨p3, q3⟩, ⟨p4, q4⟩, ⟨p5, q5⟩, g1, g2⟩ := (by assumption : Below w.heap.size w _ ∧ _ ∧ _ ∧ _ ∧ _ ∧ _ ∧ _ ∧ _ ∧ _ ∧ _ ∧ _ ∧ _ ∧ _ ∧ _)
          refine wpAnyH_ready (rs := [8]) (by kernel_rfl) (by simp) ?_
          refine AllReadyH.cons (o := { dst := _, op := _, type := _, pos := _, after := _, guard := _ }) rfl (fun K hK => ?_) AllReadyH.nil
          go_simp
          refine hK.out _ _ ?_ (fun hHeld => ?_)
          · (try dsimp only); exact keep10 (by omega) (by omega) (by omega) (by assumption)
          clear hK K
          try simp only [Act.put, List.setIfInBounds_toArray, List.set_cons_zero, List.set_cons_succ]
          refine wpAnyH_done (by kernel_rfl) ?_ _
          refine NoPanic.normal ?_
          have hF := (by assumption : Below w.heap.size w _ ∧ _ ∧ _ ∧ _ ∧ _ ∧ _ ∧ _ ∧ _ ∧ _ ∧ _ ∧ _ ∧ _ ∧ _ ∧ _).1
          have hfin := fin10 (A := w.heap.size + 1) (B := w.heap.size + 1 + 1) (by omega) hU2.out.2.2.2.2.2.2.1 hU2.out.2.2.2.2.2.2.2.1 hU2.out.2.2.2.2.2.2.2.2.1 hU2.out.2.2.2.2.2.2.2.2.2.1 hU2.out.2.2.2.2.2.2.2.2.2.2.1 hU2.out.2.2.2.2.2.2.2.2.2.2.2.1 (.int .i64 (s.pos + d.1)) (.int .i64 (s.charge - d.2)) (.bool s.bolted) (.int .i64 0) (.int .i64 d.1) (.int .i64 d.2)
          clear hHeld
          try clear hHeld
          generalize World.setCell (World.setCell _ _ _) _ _ = F at *
          obtain ⟨f0, f1, f2, f3, f4, f5⟩ := hfin
          go_wp2_with fail
          refine bodyPost_ret (v := .tuple #[.agg #[.int .i64 (s.pos + d.1), .int .i64 (s.charge - d.2), .bool s.bolted], .agg #[.int .i64 0, .int .i64 d.1, .int .i64 d.2]]) (by simp [results, Tryz.results28, go_sem, f0, f1, f2, f3, f4, f5]) rfl ⟨by rw [HE.out]; simp [hpw, hr], hF⟩
        · rw [hpw] at c25
          go_wp2_with fail
          have BU : StB w (mL g p s t') (Z.alloc (.cells #[.int .i64 (s.pos + d.1), .int .i64 (min (s.charge - d.2 + g.pump) g.cap), .bool s.bolted] 27)) := BZ.later ((Below.refl _ _).alloc (Nat.le_refl _) _)
          have k0 : (Z.alloc (.cells #[.int .i64 (s.pos + d.1), .int .i64 (min (s.charge - d.2 + g.pump) g.cap), .bool s.bolted] 27)).cell? ⟨Z.heap.size, 0, none⟩ = some (.int .i64 (s.pos + d.1)) := by simp [go_sem]
          have k1 : (Z.alloc (.cells #[.int .i64 (s.pos + d.1), .int .i64 (min (s.charge - d.2 + g.pump) g.cap), .bool s.bolted] 27)).cell? ⟨Z.heap.size, 1, none⟩ = some (.int .i64 (min (s.charge - d.2 + g.pump) g.cap)) := by simp [go_sem]
          have k2 : (Z.alloc (.cells #[.int .i64 (s.pos + d.1), .int .i64 (min (s.charge - d.2 + g.pump) g.cap), .bool s.bolted] 27)).cell? ⟨Z.heap.size, 2, none⟩ = some (.bool s.bolted) := by simp [go_sem]
          have BW : Below Z.heap.size Z (Z.alloc (.cells #[.int .i64 (s.pos + d.1), .int .i64 (min (s.charge - d.2 + g.pump) g.cap), .bool s.bolted] 27)) := (Below.refl _ _).alloc (Nat.le_refl _) _
          have u0 := (BW.cell xl).trans v0
          have u1 := (BW.cell xl).trans v1
          generalize World.alloc Z _ = U at *
          obtain ⟨hU, -, -, -, a0, a1, a2, m0, m1, m2, fs, fv⟩ := BU
          clear v0 v1 BZ c21 c22 c23 c25 c16 c17 l0 l1
          refine wp_region_noPanic ?_
          refine wp_region_held_drew (S := (fun w' => Below w.heap.size w w' ∧ w'.cell? ⟨Z.heap.size, 0, none⟩ = some (.int .i64 (s.pos + d.1)) ∧ w'.cell? ⟨Z.heap.size, 1, none⟩ = some (.int .i64 (min (s.charge - d.2 + g.pump) g.cap)) ∧ w'.cell? ⟨Z.heap.size, 2, none⟩ = some (.bool s.bolted) ∧ w'.cell? ⟨X, 0, none⟩ = some (.int .i64 d.1) ∧ w'.cell? ⟨X, 1, none⟩ = some (.int .i64 d.2) ∧ (∃ u, w'.cell? ⟨w.heap.size + 1, 0, none⟩ = some u) ∧ (∃ u, w'.cell? ⟨w.heap.size + 1, 1, none⟩ = some u) ∧ (∃ u, w'.cell? ⟨w.heap.size + 1, 2, none⟩ = some u) ∧ (∃ u, w'.cell? ⟨w.heap.size + 1 + 1, 0, none⟩ = some u) ∧ (∃ u, w'.cell? ⟨w.heap.size + 1 + 1, 1, none⟩ = some u) ∧ (∃ u, w'.cell? ⟨w.heap.size + 1 + 1, 2, none⟩ = some u) ∧ (∀ o, w'.frozen? ⟨w.heap.size + 1, o, none⟩ = false) ∧ (∀ o, w'.frozen? ⟨w.heap.size + 1 + 1, o, none⟩ = false))) (by kernel_rfl) ?_ (fun hHeld => ?_)
          · exact ⟨hU.drew, by simpa using k0, by simpa using k1, by simpa using k2, by simpa using u0, by simpa using u1, ⟨_, by simpa using a0⟩, ⟨_, by simpa using a1⟩, ⟨_, by simpa using a2⟩, ⟨_, by simpa using m0⟩, ⟨_, by simpa using m1⟩, ⟨_, by simpa using m2⟩, by simpa using fs, by simpa using fv⟩
          clear k0 k1 k2 u0 u1 a0 a1 a2 m0 m1 m2 fs fv hU
          refine wpAnyH_take (i := 0) (oi := { dst := _, op := _, type := _, pos := _, after := _, guard := _ }) (v := ?_) rfl (by kernel_rfl) (by kernel_rfl) (by kernel_rfl) (fun _ _ _ h => h) (Or.inl ⟨by rfl, ?_⟩) (by assumption) ?_
          rotate_left
          · intro wS hSw; (try dsimp only at hSw); go_simp; try (with_reducible rfl)
          try simp only [Act.put, List.setIfInBounds_toArray, List.set_cons_zero, List.set_cons_succ]
          refine wpAnyH_take (i := 1) (oi := { dst := _, op := _, type := _, pos := _, after := _, guard := _ }) (v := ?_) rfl (by kernel_rfl) (by kernel_rfl) (by kernel_rfl) (fun _ _ _ h => h) (Or.inl ⟨by rfl, ?_⟩) (by assumption) ?_
          rotate_left
          · intro wS hSw; (try dsimp only at hSw); go_simp; try (with_reducible rfl)
          try simp only [Act.put, List.setIfInBounds_toArray, List.set_cons_zero, List.set_cons_succ]
          refine wpAnyH_take (i := 2) (oi := { dst := _, op := _, type := _, pos := _, after := _, guard := _ }) (v := ?_) rfl (by kernel_rfl) (by kernel_rfl) (by kernel_rfl) (fun _ _ _ h => h) (Or.inl ⟨by rfl, ?_⟩) (by assumption) ?_
          rotate_left
          · intro wS hSw; (try dsimp only at hSw); go_simp; try (with_reducible rfl)
          try simp only [Act.put, List.setIfInBounds_toArray, List.set_cons_zero, List.set_cons_succ]
          refine wpAnyH_take (i := 3) (oi := { dst := _, op := _, type := _, pos := _, after := _, guard := _ }) (v := ?_) rfl (by kernel_rfl) (by kernel_rfl) (by kernel_rfl) (fun _ _ _ h => h) (Or.inl ⟨by rfl, ?_⟩) (by assumption) ?_
          rotate_left
          · intro wS hSw; (try dsimp only at hSw); go_simp; try (with_reducible rfl)
          try simp only [Act.put, List.setIfInBounds_toArray, List.set_cons_zero, List.set_cons_succ]
          refine wpAnyH_take (i := 4) (oi := { dst := _, op := _, type := _, pos := _, after := _, guard := _ }) (v := ?_) rfl (by kernel_rfl) (by kernel_rfl) (by kernel_rfl) (fun _ _ _ h => h) (Or.inl ⟨by rfl, ?_⟩) (by assumption) ?_
          rotate_left
          · intro wS hSw; (try dsimp only at hSw); go_simp; try (with_reducible rfl)
          try simp only [Act.put, List.setIfInBounds_toArray, List.set_cons_zero, List.set_cons_succ]
          refine wpAnyH_take (i := 5) (oi := { dst := _, op := _, type := _, pos := _, after := _, guard := _ }) (v := ?_) rfl (by kernel_rfl) (by kernel_rfl) (by kernel_rfl) (fun _ _ _ h => h) (Or.inl ⟨by rfl, ?_⟩) (by assumption) ?_
          rotate_left
          · intro wS hSw; (try dsimp only at hSw); go_simp; try (with_reducible rfl)
          try simp only [Act.put, List.setIfInBounds_toArray, List.set_cons_zero, List.set_cons_succ]
          refine wpAnyH_take (i := 6) (oi := { dst := _, op := _, type := _, pos := _, after := _, guard := _ }) (v := ?_) rfl (by kernel_rfl) (by kernel_rfl) (by kernel_rfl) (fun _ _ _ h => h) (Or.inl ⟨by rfl, ?_⟩) (by assumption) ?_
          rotate_left
          · intro wS hSw; (try dsimp only at hSw); go_simp; try (with_reducible rfl)
          try simp only [Act.put, List.setIfInBounds_toArray, List.set_cons_zero, List.set_cons_succ]
          generalize World.drew U = U2 at *
          have hU2 := hid (by assumption : Below w.heap.size w _ ∧ _ ∧ _ ∧ _ ∧ _ ∧ _ ∧ _ ∧ _ ∧ _ ∧ _ ∧ _ ∧ _ ∧ _ ∧ _)
          obtain ⟨-, -, -, -, -, -, ⟨p0, q0⟩, ⟨p1, q1⟩, ⟨p2, q2⟩, ⟨p3, q3⟩, ⟨p4, q4⟩, ⟨p5, q5⟩, g1, g2⟩ := (by assumption : Below w.heap.size w _ ∧ _ ∧ _ ∧ _ ∧ _ ∧ _ ∧ _ ∧ _ ∧ _ ∧ _ ∧ _ ∧ _ ∧ _ ∧ _)
          refine wpAnyH_ready (rs := [7]) (by kernel_rfl) (by simp) ?_
          refine AllReadyH.cons (o := { dst := _, op := _, type := _, pos := _, after := _, guard := _ }) rfl (fun K hK => ?_) AllReadyH.nil
          go_simp
          refine hK.out _ _ ?_ (fun hHeld => ?_)
          · (try dsimp only); exact keep10 (by omega) (by omega) (by omega) (by assumption)
          clear hK K
          try simp only [Act.put, List.setIfInBounds_toArray, List.set_cons_zero, List.set_cons_succ]
          clear q0 q1 q2 q3 q4 q5 g1 g2
          obtain ⟨-, -, -, -, -, -, ⟨p0, q0⟩, ⟨p1, q1⟩, ⟨p2, q2⟩, ⟨p3, q3⟩, ⟨p4, q4⟩, ⟨p5, q5⟩, g1, g2⟩ := (by assumption : Below w.heap.size w _ ∧ _ ∧ _ ∧ _ ∧ _ ∧ _ ∧ _ ∧ _ ∧ _ ∧ _ ∧ _ ∧ _ ∧ _ ∧ _)
          refine wpAnyH_ready (rs := [8]) (by kernel_rfl) (by simp) ?_
          refine AllReadyH.cons (o := { dst := _, op := _, type := _, pos := _, after := _, guard := _ }) rfl (fun K hK => ?_) AllReadyH.nil
          go_simp
          refine hK.out _ _ ?_ (fun hHeld => ?_)
          · (try dsimp only); exact keep10 (by omega) (by omega) (by omega) (by assumption)
          clear hK K
          try simp only [Act.put, List.setIfInBounds_toArray, List.set_cons_zero, List.set_cons_succ]
          refine wpAnyH_done (by kernel_rfl) ?_ _
          refine NoPanic.normal ?_
          have hF := (by assumption : Below w.heap.size w _ ∧ _ ∧ _ ∧ _ ∧ _ ∧ _ ∧ _ ∧ _ ∧ _ ∧ _ ∧ _ ∧ _ ∧ _ ∧ _).1
          have hfin := fin10 (A := w.heap.size + 1) (B := w.heap.size + 1 + 1) (by omega) hU2.out.2.2.2.2.2.2.1 hU2.out.2.2.2.2.2.2.2.1 hU2.out.2.2.2.2.2.2.2.2.1 hU2.out.2.2.2.2.2.2.2.2.2.1 hU2.out.2.2.2.2.2.2.2.2.2.2.1 hU2.out.2.2.2.2.2.2.2.2.2.2.2.1 (.int .i64 (s.pos + d.1)) (.int .i64 (min (s.charge - d.2 + g.pump) g.cap)) (.bool s.bolted) (.int .i64 0) (.int .i64 d.1) (.int .i64 d.2)
          clear hHeld
          try clear hHeld
          generalize World.setCell (World.setCell _ _ _) _ _ = F at *
          obtain ⟨f0, f1, f2, f3, f4, f5⟩ := hfin
          go_wp2_with fail
          refine bodyPost_ret (v := .tuple #[.agg #[.int .i64 (s.pos + d.1), .int .i64 (min (s.charge - d.2 + g.pump) g.cap), .bool s.bolted], .agg #[.int .i64 0, .int .i64 d.1, .int .i64 d.2]]) (by simp [results, Tryz.results28, go_sem, f0, f1, f2, f3, f4, f5]) rfl ⟨by rw [HE.out]; simp [hpw, hr], hF⟩
      · refine AllReadyH.cons (o := { dst := _, op := _, type := _, pos := _, after := _, guard := _ }) rfl (fun K hK => ?_) AllReadyH.nil
        have hX := (by assumption : StB w (mL g p s t') _).lt
        go_simp
        refine hK.out _ _ ?_ (fun hHeld => ?_)
        · (try dsimp only); first | assumption | exact StB.later (by assumption) (by assumption) | exact StB.later (by assumption) ((Below.refl _ _).alloc (Nat.le_refl _) _) | exact StB.sets (by assumption) hX
        clear hK K
        try simp only [Act.put, List.setIfInBounds_toArray, List.set_cons_zero, List.set_cons_succ]
        have BX := Box0.new w' 107
        obtain ⟨V2, hV2⟩ : ∃ X, X = w' := ⟨_, rfl⟩
        subst hV2
        refine wpAnyH_ready (rs := [3]) (by kernel_rfl) (by simp) ?_
        refine AllReadyH.cons (o := { dst := _, op := _, type := _, pos := _, after := _, guard := _ }) rfl (fun K hK => ?_) AllReadyH.nil
        go_simp
        (simp only [enters_act]; go_simp; go_at_fn (actN s t'); have hSc := (by assumption : StB w (mL g p s t') _); (with_reducible refine (HA.out _ hSc).mono ?_); clear hSc; rintro e w' ⟨rfl, hbe⟩)
        try go_wp2_with fail
        refine hK.out _ _ ?_ (fun hHeld => ?_)
        · (try dsimp only); first | assumption | exact StB.later (by assumption) (by assumption) | exact StB.later (by assumption) ((Below.refl _ _).alloc (Nat.le_refl _) _) | exact StB.sets (by assumption) hX
        clear hK K
        try simp only [Act.put, List.setIfInBounds_toArray, List.set_cons_zero, List.set_cons_succ]
        replace BX := BX.later hbe
        obtain ⟨x0, x1, y0, y1, xl⟩ := BX
        refine wpAnyH_ready (rs := [5]) (by kernel_rfl) (by simp) ?_
        refine AllReadyH.cons (o := { dst := _, op := _, type := _, pos := _, after := _, guard := _ }) rfl (fun K hK => ?_) AllReadyH.nil
        go_simp
        refine hK.out _ _ ?_ (fun hHeld => ?_)
        · (try dsimp only); first | assumption | exact StB.later (by assumption) (by assumption) | exact StB.later (by assumption) ((Below.refl _ _).alloc (Nat.le_refl _) _) | exact StB.sets (by assumption) hX
        clear hK K
        try simp only [Act.put, List.setIfInBounds_toArray, List.set_cons_zero, List.set_cons_succ]
        have BV := Box0.sets ⟨x0, x1, y0, y1, xl⟩ d.1 d.2
        clear x0 x1 y0 y1
        refine wpAnyH_done (by kernel_rfl) ?_ _
        refine NoPanic.normal ?_
        have BZ := (by assumption : StB w (mL g p s t') _)
        generalize World.setCell (World.setCell _ _ _) _ _ = Z at *
        clear hHeld
        generalize V2.heap.size = X at *
        obtain ⟨v0, v1, xl⟩ := BV
        have l0 : w.heap.size < Z.heap.size := by have := BZ.lt; omega
        have l1 : w.heap.size + 1 < Z.heap.size := by have := BZ.lt; omega
        have l2 := BZ.lt
        have c21 := range_cell BZ.rows (show (mL g p s t')[21]? = some (.int .i64 s.pos) from rfl)
        have c22 := range_cell BZ.rows (show (mL g p s t')[22]? = some (.int .i64 s.charge) from rfl)
        have c23 := range_cell BZ.rows (show (mL g p s t')[23]? = some (.bool s.bolted) from rfl)
        have c25 := range_cell BZ.rows (show (mL g p s t')[25]? = some (.bool t'.power) from rfl)
        have c16 := range_cell BZ.rows (show (mL g p s t')[16]? = some (.int .i64 g.pump) from rfl)
        have c17 := range_cell BZ.rows (show (mL g p s t')[17]? = some (.int .i64 g.cap) from rfl)
        rcases hpw : t'.power with _ | _
        · rw [hpw] at c25
          go_wp2_with fail
          have BU : StB w (mL g p s t') (Z.alloc (.cells #[.int .i64 (s.pos + d.1), .int .i64 (s.charge - d.2), .bool s.bolted] 27)) := BZ.later ((Below.refl _ _).alloc (Nat.le_refl _) _)
          have k0 : (Z.alloc (.cells #[.int .i64 (s.pos + d.1), .int .i64 (s.charge - d.2), .bool s.bolted] 27)).cell? ⟨Z.heap.size, 0, none⟩ = some (.int .i64 (s.pos + d.1)) := by simp [go_sem]
          have k1 : (Z.alloc (.cells #[.int .i64 (s.pos + d.1), .int .i64 (s.charge - d.2), .bool s.bolted] 27)).cell? ⟨Z.heap.size, 1, none⟩ = some (.int .i64 (s.charge - d.2)) := by simp [go_sem]
          have k2 : (Z.alloc (.cells #[.int .i64 (s.pos + d.1), .int .i64 (s.charge - d.2), .bool s.bolted] 27)).cell? ⟨Z.heap.size, 2, none⟩ = some (.bool s.bolted) := by simp [go_sem]
          have BW : Below Z.heap.size Z (Z.alloc (.cells #[.int .i64 (s.pos + d.1), .int .i64 (s.charge - d.2), .bool s.bolted] 27)) := (Below.refl _ _).alloc (Nat.le_refl _) _
          have u0 := (BW.cell xl).trans v0
          have u1 := (BW.cell xl).trans v1
          generalize World.alloc Z _ = U at *
          obtain ⟨hU, -, -, -, a0, a1, a2, m0, m1, m2, fs, fv⟩ := BU
          clear v0 v1 BZ c21 c22 c23 c25 c16 c17 l0 l1
          refine wp_region_noPanic ?_
          refine wp_region_held_drew (S := (fun w' => Below w.heap.size w w' ∧ w'.cell? ⟨Z.heap.size, 0, none⟩ = some (.int .i64 (s.pos + d.1)) ∧ w'.cell? ⟨Z.heap.size, 1, none⟩ = some (.int .i64 (s.charge - d.2)) ∧ w'.cell? ⟨Z.heap.size, 2, none⟩ = some (.bool s.bolted) ∧ w'.cell? ⟨X, 0, none⟩ = some (.int .i64 d.1) ∧ w'.cell? ⟨X, 1, none⟩ = some (.int .i64 d.2) ∧ (∃ u, w'.cell? ⟨w.heap.size + 1, 0, none⟩ = some u) ∧ (∃ u, w'.cell? ⟨w.heap.size + 1, 1, none⟩ = some u) ∧ (∃ u, w'.cell? ⟨w.heap.size + 1, 2, none⟩ = some u) ∧ (∃ u, w'.cell? ⟨w.heap.size + 1 + 1, 0, none⟩ = some u) ∧ (∃ u, w'.cell? ⟨w.heap.size + 1 + 1, 1, none⟩ = some u) ∧ (∃ u, w'.cell? ⟨w.heap.size + 1 + 1, 2, none⟩ = some u) ∧ (∀ o, w'.frozen? ⟨w.heap.size + 1, o, none⟩ = false) ∧ (∀ o, w'.frozen? ⟨w.heap.size + 1 + 1, o, none⟩ = false))) (by kernel_rfl) ?_ (fun hHeld => ?_)
          · exact ⟨hU.drew, by simpa using k0, by simpa using k1, by simpa using k2, by simpa using u0, by simpa using u1, ⟨_, by simpa using a0⟩, ⟨_, by simpa using a1⟩, ⟨_, by simpa using a2⟩, ⟨_, by simpa using m0⟩, ⟨_, by simpa using m1⟩, ⟨_, by simpa using m2⟩, by simpa using fs, by simpa using fv⟩
          clear k0 k1 k2 u0 u1 a0 a1 a2 m0 m1 m2 fs fv hU
          refine wpAnyH_take (i := 0) (oi := { dst := _, op := _, type := _, pos := _, after := _, guard := _ }) (v := ?_) rfl (by kernel_rfl) (by kernel_rfl) (by kernel_rfl) (fun _ _ _ h => h) (Or.inl ⟨by rfl, ?_⟩) (by assumption) ?_
          rotate_left
          · intro wS hSw; (try dsimp only at hSw); go_simp; try (with_reducible rfl)
          try simp only [Act.put, List.setIfInBounds_toArray, List.set_cons_zero, List.set_cons_succ]
          refine wpAnyH_take (i := 1) (oi := { dst := _, op := _, type := _, pos := _, after := _, guard := _ }) (v := ?_) rfl (by kernel_rfl) (by kernel_rfl) (by kernel_rfl) (fun _ _ _ h => h) (Or.inl ⟨by rfl, ?_⟩) (by assumption) ?_
          rotate_left
          · intro wS hSw; (try dsimp only at hSw); go_simp; try (with_reducible rfl)
          try simp only [Act.put, List.setIfInBounds_toArray, List.set_cons_zero, List.set_cons_succ]
          refine wpAnyH_take (i := 2) (oi := { dst := _, op := _, type := _, pos := _, after := _, guard := _ }) (v := ?_) rfl (by kernel_rfl) (by kernel_rfl) (by kernel_rfl) (fun _ _ _ h => h) (Or.inl ⟨by rfl, ?_⟩) (by assumption) ?_
          rotate_left
          · intro wS hSw; (try dsimp only at hSw); go_simp; try (with_reducible rfl)
          try simp only [Act.put, List.setIfInBounds_toArray, List.set_cons_zero, List.set_cons_succ]
          refine wpAnyH_take (i := 3) (oi := { dst := _, op := _, type := _, pos := _, after := _, guard := _ }) (v := ?_) rfl (by kernel_rfl) (by kernel_rfl) (by kernel_rfl) (fun _ _ _ h => h) (Or.inl ⟨by rfl, ?_⟩) (by assumption) ?_
          rotate_left
          · intro wS hSw; (try dsimp only at hSw); go_simp; try (with_reducible rfl)
          try simp only [Act.put, List.setIfInBounds_toArray, List.set_cons_zero, List.set_cons_succ]
          refine wpAnyH_take (i := 4) (oi := { dst := _, op := _, type := _, pos := _, after := _, guard := _ }) (v := ?_) rfl (by kernel_rfl) (by kernel_rfl) (by kernel_rfl) (fun _ _ _ h => h) (Or.inl ⟨by rfl, ?_⟩) (by assumption) ?_
          rotate_left
          · intro wS hSw; (try dsimp only at hSw); go_simp; try (with_reducible rfl)
          try simp only [Act.put, List.setIfInBounds_toArray, List.set_cons_zero, List.set_cons_succ]
          refine wpAnyH_take (i := 5) (oi := { dst := _, op := _, type := _, pos := _, after := _, guard := _ }) (v := ?_) rfl (by kernel_rfl) (by kernel_rfl) (by kernel_rfl) (fun _ _ _ h => h) (Or.inl ⟨by rfl, ?_⟩) (by assumption) ?_
          rotate_left
          · intro wS hSw; (try dsimp only at hSw); go_simp; try (with_reducible rfl)
          try simp only [Act.put, List.setIfInBounds_toArray, List.set_cons_zero, List.set_cons_succ]
          refine wpAnyH_take (i := 6) (oi := { dst := _, op := _, type := _, pos := _, after := _, guard := _ }) (v := ?_) rfl (by kernel_rfl) (by kernel_rfl) (by kernel_rfl) (fun _ _ _ h => h) (Or.inl ⟨by rfl, ?_⟩) (by assumption) ?_
          rotate_left
          · intro wS hSw; (try dsimp only at hSw); go_simp; try (with_reducible rfl)
          try simp only [Act.put, List.setIfInBounds_toArray, List.set_cons_zero, List.set_cons_succ]
          generalize World.drew U = U2 at *
          have hU2 := hid (by assumption : Below w.heap.size w _ ∧ _ ∧ _ ∧ _ ∧ _ ∧ _ ∧ _ ∧ _ ∧ _ ∧ _ ∧ _ ∧ _ ∧ _ ∧ _)
          obtain ⟨-, -, -, -, -, -, ⟨p0, q0⟩, ⟨p1, q1⟩, ⟨p2, q2⟩, ⟨p3, q3⟩, ⟨p4, q4⟩, ⟨p5, q5⟩, g1, g2⟩ := (by assumption : Below w.heap.size w _ ∧ _ ∧ _ ∧ _ ∧ _ ∧ _ ∧ _ ∧ _ ∧ _ ∧ _ ∧ _ ∧ _ ∧ _ ∧ _)
          refine wpAnyH_ready (rs := [7]) (by kernel_rfl) (by simp) ?_
          refine AllReadyH.cons (o := { dst := _, op := _, type := _, pos := _, after := _, guard := _ }) rfl (fun K hK => ?_) AllReadyH.nil
          go_simp
          refine hK.out _ _ ?_ (fun hHeld => ?_)
          · (try dsimp only); exact keep10 (by omega) (by omega) (by omega) (by assumption)
          clear hK K
          try simp only [Act.put, List.setIfInBounds_toArray, List.set_cons_zero, List.set_cons_succ]
          clear q0 q1 q2 q3 q4 q5 g1 g2
          obtain ⟨-, -, -, -, -, -, ⟨p0, q0⟩, ⟨p1, q1⟩, ⟨p2, q2⟩, ⟨p3, q3⟩, ⟨p4, q4⟩, ⟨p5, q5⟩, g1, g2⟩ := (by assumption : Below w.heap.size w _ ∧ _ ∧ _ ∧ _ ∧ _ ∧ _ ∧ _ ∧ _ ∧ _ ∧ _ ∧ _ ∧ _ ∧ _ ∧ _)
          refine wpAnyH_ready (rs := [8]) (by kernel_rfl) (by simp) ?_
          refine AllReadyH.cons (o := { dst := _, op := _, type := _, pos := _, after := _, guard := _ }) rfl (fun K hK => ?_) AllReadyH.nil
          go_simp
          refine hK.out _ _ ?_ (fun hHeld => ?_)
          · (try dsimp only); exact keep10 (by omega) (by omega) (by omega) (by assumption)
          clear hK K
          try simp only [Act.put, List.setIfInBounds_toArray, List.set_cons_zero, List.set_cons_succ]
          refine wpAnyH_done (by kernel_rfl) ?_ _
          refine NoPanic.normal ?_
          have hF := (by assumption : Below w.heap.size w _ ∧ _ ∧ _ ∧ _ ∧ _ ∧ _ ∧ _ ∧ _ ∧ _ ∧ _ ∧ _ ∧ _ ∧ _ ∧ _).1
          have hfin := fin10 (A := w.heap.size + 1) (B := w.heap.size + 1 + 1) (by omega) hU2.out.2.2.2.2.2.2.1 hU2.out.2.2.2.2.2.2.2.1 hU2.out.2.2.2.2.2.2.2.2.1 hU2.out.2.2.2.2.2.2.2.2.2.1 hU2.out.2.2.2.2.2.2.2.2.2.2.1 hU2.out.2.2.2.2.2.2.2.2.2.2.2.1 (.int .i64 (s.pos + d.1)) (.int .i64 (s.charge - d.2)) (.bool s.bolted) (.int .i64 0) (.int .i64 d.1) (.int .i64 d.2)
          clear hHeld
          try clear hHeld
          generalize World.setCell (World.setCell _ _ _) _ _ = F at *
          obtain ⟨f0, f1, f2, f3, f4, f5⟩ := hfin
          go_wp2_with fail
          refine bodyPost_ret (v := .tuple #[.agg #[.int .i64 (s.pos + d.1), .int .i64 (s.charge - d.2), .bool s.bolted], .agg #[.int .i64 0, .int .i64 d.1, .int .i64 d.2]]) (by simp [results, Tryz.results28, go_sem, f0, f1, f2, f3, f4, f5]) rfl ⟨by rw [HE.out]; simp [hpw, hr], hF⟩
        · rw [hpw] at c25
          go_wp2_with fail
          have BU : StB w (mL g p s t') (Z.alloc (.cells #[.int .i64 (s.pos + d.1), .int .i64 (min (s.charge - d.2 + g.pump) g.cap), .bool s.bolted] 27)) := BZ.later ((Below.refl _ _).alloc (Nat.le_refl _) _)
          have k0 : (Z.alloc (.cells #[.int .i64 (s.pos + d.1), .int .i64 (min (s.charge - d.2 + g.pump) g.cap), .bool s.bolted] 27)).cell? ⟨Z.heap.size, 0, none⟩ = some (.int .i64 (s.pos + d.1)) := by simp [go_sem]
          have k1 : (Z.alloc (.cells #[.int .i64 (s.pos + d.1), .int .i64 (min (s.charge - d.2 + g.pump) g.cap), .bool s.bolted] 27)).cell? ⟨Z.heap.size, 1, none⟩ = some (.int .i64 (min (s.charge - d.2 + g.pump) g.cap)) := by simp [go_sem]
          have k2 : (Z.alloc (.cells #[.int .i64 (s.pos + d.1), .int .i64 (min (s.charge - d.2 + g.pump) g.cap), .bool s.bolted] 27)).cell? ⟨Z.heap.size, 2, none⟩ = some (.bool s.bolted) := by simp [go_sem]
          have BW : Below Z.heap.size Z (Z.alloc (.cells #[.int .i64 (s.pos + d.1), .int .i64 (min (s.charge - d.2 + g.pump) g.cap), .bool s.bolted] 27)) := (Below.refl _ _).alloc (Nat.le_refl _) _
          have u0 := (BW.cell xl).trans v0
          have u1 := (BW.cell xl).trans v1
          generalize World.alloc Z _ = U at *
          obtain ⟨hU, -, -, -, a0, a1, a2, m0, m1, m2, fs, fv⟩ := BU
          clear v0 v1 BZ c21 c22 c23 c25 c16 c17 l0 l1
          refine wp_region_noPanic ?_
          refine wp_region_held_drew (S := (fun w' => Below w.heap.size w w' ∧ w'.cell? ⟨Z.heap.size, 0, none⟩ = some (.int .i64 (s.pos + d.1)) ∧ w'.cell? ⟨Z.heap.size, 1, none⟩ = some (.int .i64 (min (s.charge - d.2 + g.pump) g.cap)) ∧ w'.cell? ⟨Z.heap.size, 2, none⟩ = some (.bool s.bolted) ∧ w'.cell? ⟨X, 0, none⟩ = some (.int .i64 d.1) ∧ w'.cell? ⟨X, 1, none⟩ = some (.int .i64 d.2) ∧ (∃ u, w'.cell? ⟨w.heap.size + 1, 0, none⟩ = some u) ∧ (∃ u, w'.cell? ⟨w.heap.size + 1, 1, none⟩ = some u) ∧ (∃ u, w'.cell? ⟨w.heap.size + 1, 2, none⟩ = some u) ∧ (∃ u, w'.cell? ⟨w.heap.size + 1 + 1, 0, none⟩ = some u) ∧ (∃ u, w'.cell? ⟨w.heap.size + 1 + 1, 1, none⟩ = some u) ∧ (∃ u, w'.cell? ⟨w.heap.size + 1 + 1, 2, none⟩ = some u) ∧ (∀ o, w'.frozen? ⟨w.heap.size + 1, o, none⟩ = false) ∧ (∀ o, w'.frozen? ⟨w.heap.size + 1 + 1, o, none⟩ = false))) (by kernel_rfl) ?_ (fun hHeld => ?_)
          · exact ⟨hU.drew, by simpa using k0, by simpa using k1, by simpa using k2, by simpa using u0, by simpa using u1, ⟨_, by simpa using a0⟩, ⟨_, by simpa using a1⟩, ⟨_, by simpa using a2⟩, ⟨_, by simpa using m0⟩, ⟨_, by simpa using m1⟩, ⟨_, by simpa using m2⟩, by simpa using fs, by simpa using fv⟩
          clear k0 k1 k2 u0 u1 a0 a1 a2 m0 m1 m2 fs fv hU
          refine wpAnyH_take (i := 0) (oi := { dst := _, op := _, type := _, pos := _, after := _, guard := _ }) (v := ?_) rfl (by kernel_rfl) (by kernel_rfl) (by kernel_rfl) (fun _ _ _ h => h) (Or.inl ⟨by rfl, ?_⟩) (by assumption) ?_
          rotate_left
          · intro wS hSw; (try dsimp only at hSw); go_simp; try (with_reducible rfl)
          try simp only [Act.put, List.setIfInBounds_toArray, List.set_cons_zero, List.set_cons_succ]
          refine wpAnyH_take (i := 1) (oi := { dst := _, op := _, type := _, pos := _, after := _, guard := _ }) (v := ?_) rfl (by kernel_rfl) (by kernel_rfl) (by kernel_rfl) (fun _ _ _ h => h) (Or.inl ⟨by rfl, ?_⟩) (by assumption) ?_
          rotate_left
          · intro wS hSw; (try dsimp only at hSw); go_simp; try (with_reducible rfl)
          try simp only [Act.put, List.setIfInBounds_toArray, List.set_cons_zero, List.set_cons_succ]
          refine wpAnyH_take (i := 2) (oi := { dst := _, op := _, type := _, pos := _, after := _, guard := _ }) (v := ?_) rfl (by kernel_rfl) (by kernel_rfl) (by kernel_rfl) (fun _ _ _ h => h) (Or.inl ⟨by rfl, ?_⟩) (by assumption) ?_
          rotate_left
          · intro wS hSw; (try dsimp only at hSw); go_simp; try (with_reducible rfl)
          try simp only [Act.put, List.setIfInBounds_toArray, List.set_cons_zero, List.set_cons_succ]
          refine wpAnyH_take (i := 3) (oi := { dst := _, op := _, type := _, pos := _, after := _, guard := _ }) (v := ?_) rfl (by kernel_rfl) (by kernel_rfl) (by kernel_rfl) (fun _ _ _ h => h) (Or.inl ⟨by rfl, ?_⟩) (by assumption) ?_
          rotate_left
          · intro wS hSw; (try dsimp only at hSw); go_simp; try (with_reducible rfl)
          try simp only [Act.put, List.setIfInBounds_toArray, List.set_cons_zero, List.set_cons_succ]
          refine wpAnyH_take (i := 4) (oi := { dst := _, op := _, type := _, pos := _, after := _, guard := _ }) (v := ?_) rfl (by kernel_rfl) (by kernel_rfl) (by kernel_rfl) (fun _ _ _ h => h) (Or.inl ⟨by rfl, ?_⟩) (by assumption) ?_
          rotate_left
          · intro wS hSw; (try dsimp only at hSw); go_simp; try (with_reducible rfl)
          try simp only [Act.put, List.setIfInBounds_toArray, List.set_cons_zero, List.set_cons_succ]
          refine wpAnyH_take (i := 5) (oi := { dst := _, op := _, type := _, pos := _, after := _, guard := _ }) (v := ?_) rfl (by kernel_rfl) (by kernel_rfl) (by kernel_rfl) (fun _ _ _ h => h) (Or.inl ⟨by rfl, ?_⟩) (by assumption) ?_
          rotate_left
          · intro wS hSw; (try dsimp only at hSw); go_simp; try (with_reducible rfl)
          try simp only [Act.put, List.setIfInBounds_toArray, List.set_cons_zero, List.set_cons_succ]
          refine wpAnyH_take (i := 6) (oi := { dst := _, op := _, type := _, pos := _, after := _, guard := _ }) (v := ?_) rfl (by kernel_rfl) (by kernel_rfl) (by kernel_rfl) (fun _ _ _ h => h) (Or.inl ⟨by rfl, ?_⟩) (by assumption) ?_
          rotate_left
          · intro wS hSw; (try dsimp only at hSw); go_simp; try (with_reducible rfl)
          try simp only [Act.put, List.setIfInBounds_toArray, List.set_cons_zero, List.set_cons_succ]
          generalize World.drew U = U2 at *
          have hU2 := hid (by assumption : Below w.heap.size w _ ∧ _ ∧ _ ∧ _ ∧ _ ∧ _ ∧ _ ∧ _ ∧ _ ∧ _ ∧ _ ∧ _ ∧ _ ∧ _)
          obtain ⟨-, -, -, -, -, -, ⟨p0, q0⟩, ⟨p1, q1⟩, ⟨p2, q2⟩, ⟨p3, q3⟩, ⟨p4, q4⟩, ⟨p5, q5⟩, g1, g2⟩ := (by assumption : Below w.heap.size w _ ∧ _ ∧ _ ∧ _ ∧ _ ∧ _ ∧ _ ∧ _ ∧ _ ∧ _ ∧ _ ∧ _ ∧ _ ∧ _)
          refine wpAnyH_ready (rs := [7]) (by kernel_rfl) (by simp) ?_
          refine AllReadyH.cons (o := { dst := _, op := _, type := _, pos := _, after := _, guard := _ }) rfl (fun K hK => ?_) AllReadyH.nil
          go_simp
          refine hK.out _ _ ?_ (fun hHeld => ?_)
          · (try dsimp only); exact keep10 (by omega) (by omega) (by omega) (by assumption)
          clear hK K
          try simp only [Act.put, List.setIfInBounds_toArray, List.set_cons_zero, List.set_cons_succ]
          clear q0 q1 q2 q3 q4 q5 g1 g2
          obtain ⟨-, -, -, -, -, -, ⟨p0, q0⟩, ⟨p1, q1⟩, ⟨p2, q2⟩, ⟨p3, q3⟩, ⟨p4, q4⟩, ⟨p5, q5⟩, g1, g2⟩ := (by assumption : Below w.heap.size w _ ∧ _ ∧ _ ∧ _ ∧ _ ∧ _ ∧ _ ∧ _ ∧ _ ∧ _ ∧ _ ∧ _ ∧ _ ∧ _)
          refine wpAnyH_ready (rs := [8]) (by kernel_rfl) (by simp) ?_
          refine AllReadyH.cons (o := { dst := _, op := _, type := _, pos := _, after := _, guard := _ }) rfl (fun K hK => ?_) AllReadyH.nil
          go_simp
          refine hK.out _ _ ?_ (fun hHeld => ?_)
          · (try dsimp only); exact keep10 (by omega) (by omega) (by omega) (by assumption)
          clear hK K
          try simp only [Act.put, List.setIfInBounds_toArray, List.set_cons_zero, List.set_cons_succ]
          refine wpAnyH_done (by kernel_rfl) ?_ _
          refine NoPanic.normal ?_
          have hF := (by assumption : Below w.heap.size w _ ∧ _ ∧ _ ∧ _ ∧ _ ∧ _ ∧ _ ∧ _ ∧ _ ∧ _ ∧ _ ∧ _ ∧ _ ∧ _).1
          have hfin := fin10 (A := w.heap.size + 1) (B := w.heap.size + 1 + 1) (by omega) hU2.out.2.2.2.2.2.2.1 hU2.out.2.2.2.2.2.2.2.1 hU2.out.2.2.2.2.2.2.2.2.1 hU2.out.2.2.2.2.2.2.2.2.2.1 hU2.out.2.2.2.2.2.2.2.2.2.2.1 hU2.out.2.2.2.2.2.2.2.2.2.2.2.1 (.int .i64 (s.pos + d.1)) (.int .i64 (min (s.charge - d.2 + g.pump) g.cap)) (.bool s.bolted) (.int .i64 0) (.int .i64 d.1) (.int .i64 d.2)
          clear hHeld
          try clear hHeld
          generalize World.setCell (World.setCell _ _ _) _ _ = F at *
          obtain ⟨f0, f1, f2, f3, f4, f5⟩ := hfin
          go_wp2_with fail
          refine bodyPost_ret (v := .tuple #[.agg #[.int .i64 (s.pos + d.1), .int .i64 (min (s.charge - d.2 + g.pump) g.cap), .bool s.bolted], .agg #[.int .i64 0, .int .i64 d.1, .int .i64 d.2]]) (by simp [results, Tryz.results28, go_sem, f0, f1, f2, f3, f4, f5]) rfl ⟨by rw [HE.out]; simp [hpw, hr], hF⟩
    · refine AllReadyH.cons (o := { dst := _, op := _, type := _, pos := _, after := _, guard := _ }) rfl (fun K hK => ?_) AllReadyH.nil
      have hdz : (World.drew V).heap.size = V.heap.size := by simp
      have hX := B2.lt
      go_simp
      refine hK.out _ _ ?_ (fun hHeld => ?_)
      · (try dsimp only); first | assumption | exact StB.later (by assumption) (by assumption) | exact StB.later (by assumption) ((Below.refl _ _).alloc (Nat.le_refl _) _) | exact StB.sets (by assumption) hX
      clear hK K
      try simp only [Act.put, List.setIfInBounds_toArray, List.set_cons_zero, List.set_cons_succ]
      have BX := Box0.new (World.drew V) 107
      rw [hdz] at BX
      clear hdz
      refine wpAnyH_ready (rs := [1]) (by kernel_rfl) (by simp) ?_
      refine AllReadyH.cons (o := { dst := _, op := _, type := _, pos := _, after := _, guard := _ }) rfl (fun K hK => ?_) AllReadyH.nil
      go_simp
      (go_at_call 62; (with_reducible refine (HAc.out _).mono ?_); rintro e w' ⟨rfl, hbe⟩)
      try go_wp2_with fail
      refine hK.out _ _ ?_ (fun hHeld => ?_)
      · (try dsimp only); first | assumption | exact StB.later (by assumption) (by assumption) | exact StB.later (by assumption) ((Below.refl _ _).alloc (Nat.le_refl _) _) | exact StB.sets (by assumption) hX
      clear hK K
      try simp only [Act.put, List.setIfInBounds_toArray, List.set_cons_zero, List.set_cons_succ]
      replace BX := BX.later hbe
      refine wpAnyH_ready (rs := [3]) (by kernel_rfl) (by simp) ?_
      refine AllReadyH.cons (o := { dst := _, op := _, type := _, pos := _, after := _, guard := _ }) rfl (fun K hK => ?_) AllReadyH.nil
      go_simp
      (simp only [enters_act]; go_simp; go_at_fn (actN s t'); have hSc := (by assumption : StB w (mL g p s t') _); (with_reducible refine (HA.out _ hSc).mono ?_); clear hSc; rintro e w' ⟨rfl, hbe⟩)
      try go_wp2_with fail
      refine hK.out _ _ ?_ (fun hHeld => ?_)
      · (try dsimp only); first | assumption | exact StB.later (by assumption) (by assumption) | exact StB.later (by assumption) ((Below.refl _ _).alloc (Nat.le_refl _) _) | exact StB.sets (by assumption) hX
      clear hK K
      try simp only [Act.put, List.setIfInBounds_toArray, List.set_cons_zero, List.set_cons_succ]
      replace BX := BX.later hbe
      obtain ⟨x0, x1, y0, y1, xl⟩ := BX
      refine wpAnyH_ready (rs := [5]) (by kernel_rfl) (by simp) ?_
      refine AllReadyH.cons (o := { dst := _, op := _, type := _, pos := _, after := _, guard := _ }) rfl (fun K hK => ?_) AllReadyH.nil
      go_simp
      refine hK.out _ _ ?_ (fun hHeld => ?_)
      · (try dsimp only); first | assumption | exact StB.later (by assumption) (by assumption) | exact StB.later (by assumption) ((Below.refl _ _).alloc (Nat.le_refl _) _) | exact StB.sets (by assumption) hX
      clear hK K
      try simp only [Act.put, List.setIfInBounds_toArray, List.set_cons_zero, List.set_cons_succ]
      have BV := Box0.sets ⟨x0, x1, y0, y1, xl⟩ d.1 d.2
      clear x0 x1 y0 y1
      refine wpAnyH_done (by kernel_rfl) ?_ _
      refine NoPanic.normal ?_
      have BZ := (by assumption : StB w (mL g p s t') _)
      generalize World.setCell (World.setCell _ _ _) _ _ = Z at *
      clear hHeld
      generalize V.heap.size = X at *
      obtain ⟨v0, v1, xl⟩ := BV
      have l0 : w.heap.size < Z.heap.size := by have := BZ.lt; omega
      have l1 : w.heap.size + 1 < Z.heap.size := by have := BZ.lt; omega
      have l2 := BZ.lt
      have c21 := range_cell BZ.rows (show (mL g p s t')[21]? = some (.int .i64 s.pos) from rfl)
      have c22 := range_cell BZ.rows (show (mL g p s t')[22]? = some (.int .i64 s.charge) from rfl)
      have c23 := range_cell BZ.rows (show (mL g p s t')[23]? = some (.bool s.bolted) from rfl)
      have c25 := range_cell BZ.rows (show (mL g p s t')[25]? = some (.bool t'.power) from rfl)
      have c16 := range_cell BZ.rows (show (mL g p s t')[16]? = some (.int .i64 g.pump) from rfl)
      have c17 := range_cell BZ.rows (show (mL g p s t')[17]? = some (.int .i64 g.cap) from rfl)
      rcases hpw : t'.power with _ | _
      · rw [hpw] at c25
        go_wp2_with fail
        have BU : StB w (mL g p s t') (Z.alloc (.cells #[.int .i64 (s.pos + d.1), .int .i64 (s.charge - d.2), .bool s.bolted] 27)) := BZ.later ((Below.refl _ _).alloc (Nat.le_refl _) _)
        have k0 : (Z.alloc (.cells #[.int .i64 (s.pos + d.1), .int .i64 (s.charge - d.2), .bool s.bolted] 27)).cell? ⟨Z.heap.size, 0, none⟩ = some (.int .i64 (s.pos + d.1)) := by simp [go_sem]
        have k1 : (Z.alloc (.cells #[.int .i64 (s.pos + d.1), .int .i64 (s.charge - d.2), .bool s.bolted] 27)).cell? ⟨Z.heap.size, 1, none⟩ = some (.int .i64 (s.charge - d.2)) := by simp [go_sem]
        have k2 : (Z.alloc (.cells #[.int .i64 (s.pos + d.1), .int .i64 (s.charge - d.2), .bool s.bolted] 27)).cell? ⟨Z.heap.size, 2, none⟩ = some (.bool s.bolted) := by simp [go_sem]
        have BW : Below Z.heap.size Z (Z.alloc (.cells #[.int .i64 (s.pos + d.1), .int .i64 (s.charge - d.2), .bool s.bolted] 27)) := (Below.refl _ _).alloc (Nat.le_refl _) _
        have u0 := (BW.cell xl).trans v0
        have u1 := (BW.cell xl).trans v1
        generalize World.alloc Z _ = U at *
        obtain ⟨hU, -, -, -, a0, a1, a2, m0, m1, m2, fs, fv⟩ := BU
        clear v0 v1 BZ c21 c22 c23 c25 c16 c17 l0 l1
        refine wp_region_noPanic ?_
        refine wp_region_held_drew (S := (fun w' => Below w.heap.size w w' ∧ w'.cell? ⟨Z.heap.size, 0, none⟩ = some (.int .i64 (s.pos + d.1)) ∧ w'.cell? ⟨Z.heap.size, 1, none⟩ = some (.int .i64 (s.charge - d.2)) ∧ w'.cell? ⟨Z.heap.size, 2, none⟩ = some (.bool s.bolted) ∧ w'.cell? ⟨X, 0, none⟩ = some (.int .i64 d.1) ∧ w'.cell? ⟨X, 1, none⟩ = some (.int .i64 d.2) ∧ (∃ u, w'.cell? ⟨w.heap.size + 1, 0, none⟩ = some u) ∧ (∃ u, w'.cell? ⟨w.heap.size + 1, 1, none⟩ = some u) ∧ (∃ u, w'.cell? ⟨w.heap.size + 1, 2, none⟩ = some u) ∧ (∃ u, w'.cell? ⟨w.heap.size + 1 + 1, 0, none⟩ = some u) ∧ (∃ u, w'.cell? ⟨w.heap.size + 1 + 1, 1, none⟩ = some u) ∧ (∃ u, w'.cell? ⟨w.heap.size + 1 + 1, 2, none⟩ = some u) ∧ (∀ o, w'.frozen? ⟨w.heap.size + 1, o, none⟩ = false) ∧ (∀ o, w'.frozen? ⟨w.heap.size + 1 + 1, o, none⟩ = false))) (by kernel_rfl) ?_ (fun hHeld => ?_)
        · exact ⟨hU.drew, by simpa using k0, by simpa using k1, by simpa using k2, by simpa using u0, by simpa using u1, ⟨_, by simpa using a0⟩, ⟨_, by simpa using a1⟩, ⟨_, by simpa using a2⟩, ⟨_, by simpa using m0⟩, ⟨_, by simpa using m1⟩, ⟨_, by simpa using m2⟩, by simpa using fs, by simpa using fv⟩
        clear k0 k1 k2 u0 u1 a0 a1 a2 m0 m1 m2 fs fv hU
        refine wpAnyH_take (i := 0) (oi := { dst := _, op := _, type := _, pos := _, after := _, guard := _ }) (v := ?_) rfl (by kernel_rfl) (by kernel_rfl) (by kernel_rfl) (fun _ _ _ h => h) (Or.inl ⟨by rfl, ?_⟩) (by assumption) ?_
        rotate_left
        · intro wS hSw; (try dsimp only at hSw); go_simp; try (with_reducible rfl)
        try simp only [Act.put, List.setIfInBounds_toArray, List.set_cons_zero, List.set_cons_succ]
        refine wpAnyH_take (i := 1) (oi := { dst := _, op := _, type := _, pos := _, after := _, guard := _ }) (v := ?_) rfl (by kernel_rfl) (by kernel_rfl) (by kernel_rfl) (fun _ _ _ h => h) (Or.inl ⟨by rfl, ?_⟩) (by assumption) ?_
        rotate_left
        · intro wS hSw; (try dsimp only at hSw); go_simp; try (with_reducible rfl)
        try simp only [Act.put, List.setIfInBounds_toArray, List.set_cons_zero, List.set_cons_succ]
        refine wpAnyH_take (i := 2) (oi := { dst := _, op := _, type := _, pos := _, after := _, guard := _ }) (v := ?_) rfl (by kernel_rfl) (by kernel_rfl) (by kernel_rfl) (fun _ _ _ h => h) (Or.inl ⟨by rfl, ?_⟩) (by assumption) ?_
        rotate_left
        · intro wS hSw; (try dsimp only at hSw); go_simp; try (with_reducible rfl)
        try simp only [Act.put, List.setIfInBounds_toArray, List.set_cons_zero, List.set_cons_succ]
        refine wpAnyH_take (i := 3) (oi := { dst := _, op := _, type := _, pos := _, after := _, guard := _ }) (v := ?_) rfl (by kernel_rfl) (by kernel_rfl) (by kernel_rfl) (fun _ _ _ h => h) (Or.inl ⟨by rfl, ?_⟩) (by assumption) ?_
        rotate_left
        · intro wS hSw; (try dsimp only at hSw); go_simp; try (with_reducible rfl)
        try simp only [Act.put, List.setIfInBounds_toArray, List.set_cons_zero, List.set_cons_succ]
        refine wpAnyH_take (i := 4) (oi := { dst := _, op := _, type := _, pos := _, after := _, guard := _ }) (v := ?_) rfl (by kernel_rfl) (by kernel_rfl) (by kernel_rfl) (fun _ _ _ h => h) (Or.inl ⟨by rfl, ?_⟩) (by assumption) ?_
        rotate_left
        · intro wS hSw; (try dsimp only at hSw); go_simp; try (with_reducible rfl)
        try simp only [Act.put, List.setIfInBounds_toArray, List.set_cons_zero, List.set_cons_succ]
        refine wpAnyH_take (i := 5) (oi := { dst := _, op := _, type := _, pos := _, after := _, guard := _ }) (v := ?_) rfl (by kernel_rfl) (by kernel_rfl) (by kernel_rfl) (fun _ _ _ h => h) (Or.inl ⟨by rfl, ?_⟩) (by assumption) ?_
        rotate_left
        · intro wS hSw; (try dsimp only at hSw); go_simp; try (with_reducible rfl)
        try simp only [Act.put, List.setIfInBounds_toArray, List.set_cons_zero, List.set_cons_succ]
        refine wpAnyH_take (i := 6) (oi := { dst := _, op := _, type := _, pos := _, after := _, guard := _ }) (v := ?_) rfl (by kernel_rfl) (by kernel_rfl) (by kernel_rfl) (fun _ _ _ h => h) (Or.inl ⟨by rfl, ?_⟩) (by assumption) ?_
        rotate_left
        · intro wS hSw; (try dsimp only at hSw); go_simp; try (with_reducible rfl)
        try simp only [Act.put, List.setIfInBounds_toArray, List.set_cons_zero, List.set_cons_succ]
        generalize World.drew U = U2 at *
        have hU2 := hid (by assumption : Below w.heap.size w _ ∧ _ ∧ _ ∧ _ ∧ _ ∧ _ ∧ _ ∧ _ ∧ _ ∧ _ ∧ _ ∧ _ ∧ _ ∧ _)
        obtain ⟨-, -, -, -, -, -, ⟨p0, q0⟩, ⟨p1, q1⟩, ⟨p2, q2⟩, ⟨p3, q3⟩, ⟨p4, q4⟩, ⟨p5, q5⟩, g1, g2⟩ := (by assumption : Below w.heap.size w _ ∧ _ ∧ _ ∧ _ ∧ _ ∧ _ ∧ _ ∧ _ ∧ _ ∧ _ ∧ _ ∧ _ ∧ _ ∧ _)
        refine wpAnyH_ready (rs := [7]) (by kernel_rfl) (by simp) ?_
        refine AllReadyH.cons (o := { dst := _, op := _, type := _, pos := _, after := _, guard := _ }) rfl (fun K hK => ?_) AllReadyH.nil
        go_simp
        refine hK.out _ _ ?_ (fun hHeld => ?_)
        · (try dsimp only); exact keep10 (by omega) (by omega) (by omega) (by assumption)
        clear hK K
        try simp only [Act.put, List.setIfInBounds_toArray, List.set_cons_zero, List.set_cons_succ]
        clear q0 q1 q2 q3 q4 q5 g1 g2
        obtain ⟨-, -, -, -, -, -, ⟨p0, q0⟩, ⟨p1, q1⟩, ⟨p2, q2⟩, ⟨p3, q3⟩, ⟨p4, q4⟩, ⟨p5, q5⟩, g1, g2⟩ := (by assumption : Below w.heap.size w _ ∧ _ ∧ _ ∧ _ ∧ _ ∧ _ ∧ _ ∧ _ ∧ _ ∧ _ ∧ _ ∧ _ ∧ _ ∧ _)
        refine wpAnyH_ready (rs := [8]) (by kernel_rfl) (by simp) ?_
        refine AllReadyH.cons (o := { dst := _, op := _, type := _, pos := _, after := _, guard := _ }) rfl (fun K hK => ?_) AllReadyH.nil
        go_simp
        refine hK.out _ _ ?_ (fun hHeld => ?_)
        · (try dsimp only); exact keep10 (by omega) (by omega) (by omega) (by assumption)
        clear hK K
        try simp only [Act.put, List.setIfInBounds_toArray, List.set_cons_zero, List.set_cons_succ]
        refine wpAnyH_done (by kernel_rfl) ?_ _
        refine NoPanic.normal ?_
        have hF := (by assumption : Below w.heap.size w _ ∧ _ ∧ _ ∧ _ ∧ _ ∧ _ ∧ _ ∧ _ ∧ _ ∧ _ ∧ _ ∧ _ ∧ _ ∧ _).1
        have hfin := fin10 (A := w.heap.size + 1) (B := w.heap.size + 1 + 1) (by omega) hU2.out.2.2.2.2.2.2.1 hU2.out.2.2.2.2.2.2.2.1 hU2.out.2.2.2.2.2.2.2.2.1 hU2.out.2.2.2.2.2.2.2.2.2.1 hU2.out.2.2.2.2.2.2.2.2.2.2.1 hU2.out.2.2.2.2.2.2.2.2.2.2.2.1 (.int .i64 (s.pos + d.1)) (.int .i64 (s.charge - d.2)) (.bool s.bolted) (.int .i64 0) (.int .i64 d.1) (.int .i64 d.2)
        clear hHeld
        try clear hHeld
        generalize World.setCell (World.setCell _ _ _) _ _ = F at *
        obtain ⟨f0, f1, f2, f3, f4, f5⟩ := hfin
        go_wp2_with fail
        refine bodyPost_ret (v := .tuple #[.agg #[.int .i64 (s.pos + d.1), .int .i64 (s.charge - d.2), .bool s.bolted], .agg #[.int .i64 0, .int .i64 d.1, .int .i64 d.2]]) (by simp [results, Tryz.results28, go_sem, f0, f1, f2, f3, f4, f5]) rfl ⟨by rw [HE.out]; simp [hpw, hr], hF⟩
      · rw [hpw] at c25
        go_wp2_with fail
        have BU : StB w (mL g p s t') (Z.alloc (.cells #[.int .i64 (s.pos + d.1), .int .i64 (min (s.charge - d.2 + g.pump) g.cap), .bool s.bolted] 27)) := BZ.later ((Below.refl _ _).alloc (Nat.le_refl _) _)
        have k0 : (Z.alloc (.cells #[.int .i64 (s.pos + d.1), .int .i64 (min (s.charge - d.2 + g.pump) g.cap), .bool s.bolted] 27)).cell? ⟨Z.heap.size, 0, none⟩ = some (.int .i64 (s.pos + d.1)) := by simp [go_sem]
        have k1 : (Z.alloc (.cells #[.int .i64 (s.pos + d.1), .int .i64 (min (s.charge - d.2 + g.pump) g.cap), .bool s.bolted] 27)).cell? ⟨Z.heap.size, 1, none⟩ = some (.int .i64 (min (s.charge - d.2 + g.pump) g.cap)) := by simp [go_sem]
        have k2 : (Z.alloc (.cells #[.int .i64 (s.pos + d.1), .int .i64 (min (s.charge - d.2 + g.pump) g.cap), .bool s.bolted] 27)).cell? ⟨Z.heap.size, 2, none⟩ = some (.bool s.bolted) := by simp [go_sem]
        have BW : Below Z.heap.size Z (Z.alloc (.cells #[.int .i64 (s.pos + d.1), .int .i64 (min (s.charge - d.2 + g.pump) g.cap), .bool s.bolted] 27)) := (Below.refl _ _).alloc (Nat.le_refl _) _
        have u0 := (BW.cell xl).trans v0
        have u1 := (BW.cell xl).trans v1
        generalize World.alloc Z _ = U at *
        obtain ⟨hU, -, -, -, a0, a1, a2, m0, m1, m2, fs, fv⟩ := BU
        clear v0 v1 BZ c21 c22 c23 c25 c16 c17 l0 l1
        refine wp_region_noPanic ?_
        refine wp_region_held_drew (S := (fun w' => Below w.heap.size w w' ∧ w'.cell? ⟨Z.heap.size, 0, none⟩ = some (.int .i64 (s.pos + d.1)) ∧ w'.cell? ⟨Z.heap.size, 1, none⟩ = some (.int .i64 (min (s.charge - d.2 + g.pump) g.cap)) ∧ w'.cell? ⟨Z.heap.size, 2, none⟩ = some (.bool s.bolted) ∧ w'.cell? ⟨X, 0, none⟩ = some (.int .i64 d.1) ∧ w'.cell? ⟨X, 1, none⟩ = some (.int .i64 d.2) ∧ (∃ u, w'.cell? ⟨w.heap.size + 1, 0, none⟩ = some u) ∧ (∃ u, w'.cell? ⟨w.heap.size + 1, 1, none⟩ = some u) ∧ (∃ u, w'.cell? ⟨w.heap.size + 1, 2, none⟩ = some u) ∧ (∃ u, w'.cell? ⟨w.heap.size + 1 + 1, 0, none⟩ = some u) ∧ (∃ u, w'.cell? ⟨w.heap.size + 1 + 1, 1, none⟩ = some u) ∧ (∃ u, w'.cell? ⟨w.heap.size + 1 + 1, 2, none⟩ = some u) ∧ (∀ o, w'.frozen? ⟨w.heap.size + 1, o, none⟩ = false) ∧ (∀ o, w'.frozen? ⟨w.heap.size + 1 + 1, o, none⟩ = false))) (by kernel_rfl) ?_ (fun hHeld => ?_)
        · exact ⟨hU.drew, by simpa using k0, by simpa using k1, by simpa using k2, by simpa using u0, by simpa using u1, ⟨_, by simpa using a0⟩, ⟨_, by simpa using a1⟩, ⟨_, by simpa using a2⟩, ⟨_, by simpa using m0⟩, ⟨_, by simpa using m1⟩, ⟨_, by simpa using m2⟩, by simpa using fs, by simpa using fv⟩
        clear k0 k1 k2 u0 u1 a0 a1 a2 m0 m1 m2 fs fv hU
        refine wpAnyH_take (i := 0) (oi := { dst := _, op := _, type := _, pos := _, after := _, guard := _ }) (v := ?_) rfl (by kernel_rfl) (by kernel_rfl) (by kernel_rfl) (fun _ _ _ h => h) (Or.inl ⟨by rfl, ?_⟩) (by assumption) ?_
        rotate_left
        · intro wS hSw; (try dsimp only at hSw); go_simp; try (with_reducible rfl)
        try simp only [Act.put, List.setIfInBounds_toArray, List.set_cons_zero, List.set_cons_succ]
        refine wpAnyH_take (i := 1) (oi := { dst := _, op := _, type := _, pos := _, after := _, guard := _ }) (v := ?_) rfl (by kernel_rfl) (by kernel_rfl) (by kernel_rfl) (fun _ _ _ h => h) (Or.inl ⟨by rfl, ?_⟩) (by assumption) ?_
        rotate_left
        · intro wS hSw; (try dsimp only at hSw); go_simp; try (with_reducible rfl)
        try simp only [Act.put, List.setIfInBounds_toArray, List.set_cons_zero, List.set_cons_succ]
        refine wpAnyH_take (i := 2) (oi := { dst := _, op := _, type := _, pos := _, after := _, guard := _ }) (v := ?_) rfl (by kernel_rfl) (by kernel_rfl) (by kernel_rfl) (fun _ _ _ h => h) (Or.inl ⟨by rfl, ?_⟩) (by assumption) ?_
        rotate_left
        · intro wS hSw; (try dsimp only at hSw); go_simp; try (with_reducible rfl)
        try simp only [Act.put, List.setIfInBounds_toArray, List.set_cons_zero, List.set_cons_succ]
        refine wpAnyH_take (i := 3) (oi := { dst := _, op := _, type := _, pos := _, after := _, guard := _ }) (v := ?_) rfl (by kernel_rfl) (by kernel_rfl) (by kernel_rfl) (fun _ _ _ h => h) (Or.inl ⟨by rfl, ?_⟩) (by assumption) ?_
        rotate_left
        · intro wS hSw; (try dsimp only at hSw); go_simp; try (with_reducible rfl)
        try simp only [Act.put, List.setIfInBounds_toArray, List.set_cons_zero, List.set_cons_succ]
        refine wpAnyH_take (i := 4) (oi := { dst := _, op := _, type := _, pos := _, after := _, guard := _ }) (v := ?_) rfl (by kernel_rfl) (by kernel_rfl) (by kernel_rfl) (fun _ _ _ h => h) (Or.inl ⟨by rfl, ?_⟩) (by assumption) ?_
        rotate_left
        · intro wS hSw; (try dsimp only at hSw); go_simp; try (with_reducible rfl)
        try simp only [Act.put, List.setIfInBounds_toArray, List.set_cons_zero, List.set_cons_succ]
        refine wpAnyH_take (i := 5) (oi := { dst := _, op := _, type := _, pos := _, after := _, guard := _ }) (v := ?_) rfl (by kernel_rfl) (by kernel_rfl) (by kernel_rfl) (fun _ _ _ h => h) (Or.inl ⟨by rfl, ?_⟩) (by assumption) ?_
        rotate_left
        · intro wS hSw; (try dsimp only at hSw); go_simp; try (with_reducible rfl)
        try simp only [Act.put, List.setIfInBounds_toArray, List.set_cons_zero, List.set_cons_succ]
        refine wpAnyH_take (i := 6) (oi := { dst := _, op := _, type := _, pos := _, after := _, guard := _ }) (v := ?_) rfl (by kernel_rfl) (by kernel_rfl) (by kernel_rfl) (fun _ _ _ h => h) (Or.inl ⟨by rfl, ?_⟩) (by assumption) ?_
        rotate_left
        · intro wS hSw; (try dsimp only at hSw); go_simp; try (with_reducible rfl)
        try simp only [Act.put, List.setIfInBounds_toArray, List.set_cons_zero, List.set_cons_succ]
        generalize World.drew U = U2 at *
        have hU2 := hid (by assumption : Below w.heap.size w _ ∧ _ ∧ _ ∧ _ ∧ _ ∧ _ ∧ _ ∧ _ ∧ _ ∧ _ ∧ _ ∧ _ ∧ _ ∧ _)
        obtain ⟨-, -, -, -, -, -, ⟨p0, q0⟩, ⟨p1, q1⟩, ⟨p2, q2⟩, ⟨p3, q3⟩, ⟨p4, q4⟩, ⟨p5, q5⟩, g1, g2⟩ := (by assumption : Below w.heap.size w _ ∧ _ ∧ _ ∧ _ ∧ _ ∧ _ ∧ _ ∧ _ ∧ _ ∧ _ ∧ _ ∧ _ ∧ _ ∧ _)
        refine wpAnyH_ready (rs := [7]) (by kernel_rfl) (by simp) ?_
        refine AllReadyH.cons (o := { dst := _, op := _, type := _, pos := _, after := _, guard := _ }) rfl (fun K hK => ?_) AllReadyH.nil
        go_simp
        refine hK.out _ _ ?_ (fun hHeld => ?_)
        · (try dsimp only); exact keep10 (by omega) (by omega) (by omega) (by assumption)
        clear hK K
        try simp only [Act.put, List.setIfInBounds_toArray, List.set_cons_zero, List.set_cons_succ]
        clear q0 q1 q2 q3 q4 q5 g1 g2
        obtain ⟨-, -, -, -, -, -, ⟨p0, q0⟩, ⟨p1, q1⟩, ⟨p2, q2⟩, ⟨p3, q3⟩, ⟨p4, q4⟩, ⟨p5, q5⟩, g1, g2⟩ := (by assumption : Below w.heap.size w _ ∧ _ ∧ _ ∧ _ ∧ _ ∧ _ ∧ _ ∧ _ ∧ _ ∧ _ ∧ _ ∧ _ ∧ _ ∧ _)
        refine wpAnyH_ready (rs := [8]) (by kernel_rfl) (by simp) ?_
        refine AllReadyH.cons (o := { dst := _, op := _, type := _, pos := _, after := _, guard := _ }) rfl (fun K hK => ?_) AllReadyH.nil
        go_simp
        refine hK.out _ _ ?_ (fun hHeld => ?_)
        · (try dsimp only); exact keep10 (by omega) (by omega) (by omega) (by assumption)
        clear hK K
        try simp only [Act.put, List.setIfInBounds_toArray, List.set_cons_zero, List.set_cons_succ]
        refine wpAnyH_done (by kernel_rfl) ?_ _
        refine NoPanic.normal ?_
        have hF := (by assumption : Below w.heap.size w _ ∧ _ ∧ _ ∧ _ ∧ _ ∧ _ ∧ _ ∧ _ ∧ _ ∧ _ ∧ _ ∧ _ ∧ _ ∧ _).1
        have hfin := fin10 (A := w.heap.size + 1) (B := w.heap.size + 1 + 1) (by omega) hU2.out.2.2.2.2.2.2.1 hU2.out.2.2.2.2.2.2.2.1 hU2.out.2.2.2.2.2.2.2.2.1 hU2.out.2.2.2.2.2.2.2.2.2.1 hU2.out.2.2.2.2.2.2.2.2.2.2.1 hU2.out.2.2.2.2.2.2.2.2.2.2.2.1 (.int .i64 (s.pos + d.1)) (.int .i64 (min (s.charge - d.2 + g.pump) g.cap)) (.bool s.bolted) (.int .i64 0) (.int .i64 d.1) (.int .i64 d.2)
        clear hHeld
        try clear hHeld
        generalize World.setCell (World.setCell _ _ _) _ _ = F at *
        obtain ⟨f0, f1, f2, f3, f4, f5⟩ := hfin
        go_wp2_with fail
        refine bodyPost_ret (v := .tuple #[.agg #[.int .i64 (s.pos + d.1), .int .i64 (min (s.charge - d.2 + g.pump) g.cap), .bool s.bolted], .agg #[.int .i64 0, .int .i64 d.1, .int .i64 d.2]]) (by simp [results, Tryz.results28, go_sem, f0, f1, f2, f3, f4, f5]) rfl ⟨by rw [HE.out]; simp [hpw, hr], hF⟩
  · have e : t' = { t with order := 0 } := by rw [ht']; exact if_neg hr
    go_wp2_with (first | (refine wpList_load_mid rfl 74 _ rfl _ 0 rfl (mL g p s t) _ R Tryz.underlying74 rfl (by kernel_rfl) ?_) | (go_at_call 61; (with_reducible refine (HRf.out).mono ?_); rintro e w' ⟨rfl, B1, c24, z24⟩))
    have B2 := B1.hold
    rw [← e] at B2
    clear HRf R c24 z24 B1 ht' e
    generalize World.setCell _ _ _ = V at *
    refine wp_region_noPanic ?_
    refine wp_region_held_drew (S := StB w (mL g p s t')) (by kernel_rfl) ?_ (fun hHeld => ?_)
    · exact B2.drew
    refine wpAnyH_take (i := 0) (oi := { dst := _, op := _, type := _, pos := _, after := _, guard := _ }) (v := .agg (mL g p s t').toArray) rfl (by kernel_rfl) (by kernel_rfl) (by kernel_rfl) (fun _ _ _ h => h) (yieldsIf_load_mid (by rfl) 74 _ rfl w.heap.size 0 rfl (mL g p s t') _ (fun _ hS => hS.rows) Tryz.underlying74 rfl (by kernel_rfl)) (by assumption) ?_
    try simp only [Act.put, List.setIfInBounds_toArray, List.set_cons_zero, List.set_cons_succ]
    refine wpAnyH_take (i := 2) (oi := { dst := _, op := _, type := _, pos := _, after := _, guard := _ }) (v := .agg (mL g p s t').toArray) rfl (by kernel_rfl) (by kernel_rfl) (by kernel_rfl) (fun _ _ _ h => h) (yieldsIf_load_mid (by rfl) 74 _ rfl w.heap.size 0 rfl (mL g p s t') _ (fun _ hS => hS.rows) Tryz.underlying74 rfl (by kernel_rfl)) (by assumption) ?_
    try simp only [Act.put, List.setIfInBounds_toArray, List.set_cons_zero, List.set_cons_succ]
    refine wpAnyH_ready (rs := [1, 4]) (by kernel_rfl) (by simp) ?_
    refine AllReadyH.cons (o := { dst := _, op := _, type := _, pos := _, after := _, guard := _ }) rfl (fun K hK => ?_) ?_
    · go_simp
      (go_at_call 62; (with_reducible refine (HAc.out _).mono ?_); rintro e w' ⟨rfl, hbe⟩)
      try go_wp2_with fail
      refine hK.out _ _ ?_ (fun hHeld => ?_)
      · (try dsimp only); first | assumption | exact StB.later (by assumption) (by assumption) | exact StB.later (by assumption) ((Below.refl _ _).alloc (Nat.le_refl _) _) | exact StB.sets (by assumption) hX
      clear hK K
      try simp only [Act.put, List.setIfInBounds_toArray, List.set_cons_zero, List.set_cons_succ]
      refine wpAnyH_ready (rs := [3, 4]) (by kernel_rfl) (by simp) ?_
      refine AllReadyH.cons (o := { dst := _, op := _, type := _, pos := _, after := _, guard := _ }) rfl (fun K hK => ?_) ?_
      · go_simp
        (simp only [enters_act]; go_simp; go_at_fn (actN s t'); have hSc := (by assumption : StB w (mL g p s t') _); (with_reducible refine (HA.out _ hSc).mono ?_); clear hSc; rintro e w' ⟨rfl, hbe⟩)
        try go_wp2_with fail
        refine hK.out _ _ ?_ (fun hHeld => ?_)
        · (try dsimp only); first | assumption | exact StB.later (by assumption) (by assumption) | exact StB.later (by assumption) ((Below.refl _ _).alloc (Nat.le_refl _) _) | exact StB.sets (by assumption) hX
        clear hK K
        try simp only [Act.put, List.setIfInBounds_toArray, List.set_cons_zero, List.set_cons_succ]
        refine wpAnyH_ready (rs := [4]) (by kernel_rfl) (by simp) ?_
        refine AllReadyH.cons (o := { dst := _, op := _, type := _, pos := _, after := _, guard := _ }) rfl (fun K hK => ?_) AllReadyH.nil
        have hX := (by assumption : StB w (mL g p s t') _).lt
        go_simp
        refine hK.out _ _ ?_ (fun hHeld => ?_)
        · (try dsimp only); first | assumption | exact StB.later (by assumption) (by assumption) | exact StB.later (by assumption) ((Below.refl _ _).alloc (Nat.le_refl _) _) | exact StB.sets (by assumption) hX
        clear hK K
        try simp only [Act.put, List.setIfInBounds_toArray, List.set_cons_zero, List.set_cons_succ]
        have BX := Box0.new w' 107
        obtain ⟨x0, x1, y0, y1, xl⟩ := BX
        refine wpAnyH_ready (rs := [5]) (by kernel_rfl) (by simp) ?_
        refine AllReadyH.cons (o := { dst := _, op := _, type := _, pos := _, after := _, guard := _ }) rfl (fun K hK => ?_) AllReadyH.nil
        go_simp
        refine hK.out _ _ ?_ (fun hHeld => ?_)
        · (try dsimp only); first | assumption | exact StB.later (by assumption) (by assumption) | exact StB.later (by assumption) ((Below.refl _ _).alloc (Nat.le_refl _) _) | exact StB.sets (by assumption) hX
        clear hK K
        try simp only [Act.put, List.setIfInBounds_toArray, List.set_cons_zero, List.set_cons_succ]
        have BV := BoxV.new w' 107 d.1 d.2
        clear x0 x1 y0 y1
        refine wpAnyH_done (by kernel_rfl) ?_ _
        refine NoPanic.normal ?_
        have BZ := (by assumption : StB w (mL g p s t') _)
        generalize World.alloc w' (.cells #[.int .i64 d.1, .int .i64 d.2] 107) = Z at *
        clear hHeld
        generalize w'.heap.size = X at *
        obtain ⟨v0, v1, xl⟩ := BV
        have l0 : w.heap.size < Z.heap.size := by have := BZ.lt; omega
        have l1 : w.heap.size + 1 < Z.heap.size := by have := BZ.lt; omega
        have l2 := BZ.lt
        have c21 := range_cell BZ.rows (show (mL g p s t')[21]? = some (.int .i64 s.pos) from rfl)
        have c22 := range_cell BZ.rows (show (mL g p s t')[22]? = some (.int .i64 s.charge) from rfl)
        have c23 := range_cell BZ.rows (show (mL g p s t')[23]? = some (.bool s.bolted) from rfl)
        have c25 := range_cell BZ.rows (show (mL g p s t')[25]? = some (.bool t'.power) from rfl)
        have c16 := range_cell BZ.rows (show (mL g p s t')[16]? = some (.int .i64 g.pump) from rfl)
        have c17 := range_cell BZ.rows (show (mL g p s t')[17]? = some (.int .i64 g.cap) from rfl)
        rcases hpw : t'.power with _ | _
        · rw [hpw] at c25
          go_wp2_with fail
          have BU : StB w (mL g p s t') (Z.alloc (.cells #[.int .i64 (s.pos + d.1), .int .i64 (s.charge - d.2), .bool s.bolted] 27)) := BZ.later ((Below.refl _ _).alloc (Nat.le_refl _) _)
          have k0 : (Z.alloc (.cells #[.int .i64 (s.pos + d.1), .int .i64 (s.charge - d.2), .bool s.bolted] 27)).cell? ⟨Z.heap.size, 0, none⟩ = some (.int .i64 (s.pos + d.1)) := by simp [go_sem]
          have k1 : (Z.alloc (.cells #[.int .i64 (s.pos + d.1), .int .i64 (s.charge - d.2), .bool s.bolted] 27)).cell? ⟨Z.heap.size, 1, none⟩ = some (.int .i64 (s.charge - d.2)) := by simp [go_sem]
          have k2 : (Z.alloc (.cells #[.int .i64 (s.pos + d.1), .int .i64 (s.charge - d.2), .bool s.bolted] 27)).cell? ⟨Z.heap.size, 2, none⟩ = some (.bool s.bolted) := by simp [go_sem]
          have BW : Below Z.heap.size Z (Z.alloc (.cells #[.int .i64 (s.pos + d.1), .int .i64 (s.charge - d.2), .bool s.bolted] 27)) := (Below.refl _ _).alloc (Nat.le_refl _) _
          have u0 := (BW.cell xl).trans v0
          have u1 := (BW.cell xl).trans v1
          generalize World.alloc Z _ = U at *
          obtain ⟨hU, -, -, -, a0, a1, a2, m0, m1, m2, fs, fv⟩ := BU
          clear v0 v1 BZ c21 c22 c23 c25 c16 c17 l0 l1
          refine wp_region_noPanic ?_
          refine wp_region_held_drew (S := (fun w' => Below w.heap.size w w' ∧ w'.cell? ⟨Z.heap.size, 0, none⟩ = some (.int .i64 (s.pos + d.1)) ∧ w'.cell? ⟨Z.heap.size, 1, none⟩ = some (.int .i64 (s.charge - d.2)) ∧ w'.cell? ⟨Z.heap.size, 2, none⟩ = some (.bool s.bolted) ∧ w'.cell? ⟨X, 0, none⟩ = some (.int .i64 d.1) ∧ w'.cell? ⟨X, 1, none⟩ = some (.int .i64 d.2) ∧ (∃ u, w'.cell? ⟨w.heap.size + 1, 0, none⟩ = some u) ∧ (∃ u, w'.cell? ⟨w.heap.size + 1, 1, none⟩ = some u) ∧ (∃ u, w'.cell? ⟨w.heap.size + 1, 2, none⟩ = some u) ∧ (∃ u, w'.cell? ⟨w.heap.size + 1 + 1, 0, none⟩ = some u) ∧ (∃ u, w'.cell? ⟨w.heap.size + 1 + 1, 1, none⟩ = some u) ∧ (∃ u, w'.cell? ⟨w.heap.size + 1 + 1, 2, none⟩ = some u) ∧ (∀ o, w'.frozen? ⟨w.heap.size + 1, o, none⟩ = false) ∧ (∀ o, w'.frozen? ⟨w.heap.size + 1 + 1, o, none⟩ = false))) (by kernel_rfl) ?_ (fun hHeld => ?_)
          · exact ⟨hU.drew, by simpa using k0, by simpa using k1, by simpa using k2, by simpa using u0, by simpa using u1, ⟨_, by simpa using a0⟩, ⟨_, by simpa using a1⟩, ⟨_, by simpa using a2⟩, ⟨_, by simpa using m0⟩, ⟨_, by simpa using m1⟩, ⟨_, by simpa using m2⟩, by simpa using fs, by simpa using fv⟩
          clear k0 k1 k2 u0 u1 a0 a1 a2 m0 m1 m2 fs fv hU
          refine wpAnyH_take (i := 0) (oi := { dst := _, op := _, type := _, pos := _, after := _, guard := _ }) (v := ?_) rfl (by kernel_rfl) (by kernel_rfl) (by kernel_rfl) (fun _ _ _ h => h) (Or.inl ⟨by rfl, ?_⟩) (by assumption) ?_
          rotate_left
          · intro wS hSw; (try dsimp only at hSw); go_simp; try (with_reducible rfl)
          try simp only [Act.put, List.setIfInBounds_toArray, List.set_cons_zero, List.set_cons_succ]
          refine wpAnyH_take (i := 1) (oi := { dst := _, op := _, type := _, pos := _, after := _, guard := _ }) (v := ?_) rfl (by kernel_rfl) (by kernel_rfl) (by kernel_rfl) (fun _ _ _ h => h) (Or.inl ⟨by rfl, ?_⟩) (by assumption) ?_
          rotate_left
          · intro wS hSw; (try dsimp only at hSw); go_simp; try (with_reducible rfl)
          try simp only [Act.put, List.setIfInBounds_toArray, List.set_cons_zero, List.set_cons_succ]
          refine wpAnyH_take (i := 2) (oi := { dst := _, op := _, type := _, pos := _, after := _, guard := _ }) (v := ?_) rfl (by kernel_rfl) (by kernel_rfl) (by kernel_rfl) (fun _ _ _ h => h) (Or.inl ⟨by rfl, ?_⟩) (by assumption) ?_
          rotate_left
          · intro wS hSw; (try dsimp only at hSw); go_simp; try (with_reducible rfl)
          try simp only [Act.put, List.setIfInBounds_toArray, List.set_cons_zero, List.set_cons_succ]
          refine wpAnyH_take (i := 3) (oi := { dst := _, op := _, type := _, pos := _, after := _, guard := _ }) (v := ?_) rfl (by kernel_rfl) (by kernel_rfl) (by kernel_rfl) (fun _ _ _ h => h) (Or.inl ⟨by rfl, ?_⟩) (by assumption) ?_
          rotate_left
          · intro wS hSw; (try dsimp only at hSw); go_simp; try (with_reducible rfl)
          try simp only [Act.put, List.setIfInBounds_toArray, List.set_cons_zero, List.set_cons_succ]
          refine wpAnyH_take (i := 4) (oi := { dst := _, op := _, type := _, pos := _, after := _, guard := _ }) (v := ?_) rfl (by kernel_rfl) (by kernel_rfl) (by kernel_rfl) (fun _ _ _ h => h) (Or.inl ⟨by rfl, ?_⟩) (by assumption) ?_
          rotate_left
          · intro wS hSw; (try dsimp only at hSw); go_simp; try (with_reducible rfl)
          try simp only [Act.put, List.setIfInBounds_toArray, List.set_cons_zero, List.set_cons_succ]
          refine wpAnyH_take (i := 5) (oi := { dst := _, op := _, type := _, pos := _, after := _, guard := _ }) (v := ?_) rfl (by kernel_rfl) (by kernel_rfl) (by kernel_rfl) (fun _ _ _ h => h) (Or.inl ⟨by rfl, ?_⟩) (by assumption) ?_
          rotate_left
          · intro wS hSw; (try dsimp only at hSw); go_simp; try (with_reducible rfl)
          try simp only [Act.put, List.setIfInBounds_toArray, List.set_cons_zero, List.set_cons_succ]
          refine wpAnyH_take (i := 6) (oi := { dst := _, op := _, type := _, pos := _, after := _, guard := _ }) (v := ?_) rfl (by kernel_rfl) (by kernel_rfl) (by kernel_rfl) (fun _ _ _ h => h) (Or.inl ⟨by rfl, ?_⟩) (by assumption) ?_
          rotate_left
          · intro wS hSw; (try dsimp only at hSw); go_simp; try (with_reducible rfl)
          try simp only [Act.put, List.setIfInBounds_toArray, List.set_cons_zero, List.set_cons_succ]
          generalize World.drew U = U2 at *
          have hU2 := hid (by assumption : Below w.heap.size w _ ∧ _ ∧ _ ∧ _ ∧ _ ∧ _ ∧ _ ∧ _ ∧ _ ∧ _ ∧ _ ∧ _ ∧ _ ∧ _)
          obtain ⟨-, -, -, -, -, -, ⟨p0, q0⟩, ⟨p1, q1⟩, ⟨p2, q2⟩, ⟨p3, q3⟩, ⟨p4, q4⟩, ⟨p5, q5⟩, g1, g2⟩ := (by assumption : Below w.heap.size w _ ∧ _ ∧ _ ∧ _ ∧ _ ∧ _ ∧ _ ∧ _ ∧ _ ∧ _ ∧ _ ∧ _ ∧ _ ∧ _)
          refine wpAnyH_ready (rs := [7]) (by kernel_rfl) (by simp) ?_
          refine AllReadyH.cons (o := { dst := _, op := _, type := _, pos := _, after := _, guard := _ }) rfl (fun K hK => ?_) AllReadyH.nil
          go_simp
          refine hK.out _ _ ?_ (fun hHeld => ?_)
          · (try dsimp only); exact keep10 (by omega) (by omega) (by omega) (by assumption)
          clear hK K
          try simp only [Act.put, List.setIfInBounds_toArray, List.set_cons_zero, List.set_cons_succ]
          clear q0 q1 q2 q3 q4 q5 g1 g2
          obtain ⟨-, -, -, -, -, -, ⟨p0, q0⟩, ⟨p1, q1⟩, ⟨p2, q2⟩, ⟨p3, q3⟩, ⟨p4, q4⟩, ⟨p5, q5⟩, g1, g2⟩ := (by assumption : Below w.heap.size w _ ∧ _ ∧ _ ∧ _ ∧ _ ∧ _ ∧ _ ∧ _ ∧ _ ∧ _ ∧ _ ∧ _ ∧ _ ∧ _)
          refine wpAnyH_ready (rs := [8]) (by kernel_rfl) (by simp) ?_
          refine AllReadyH.cons (o := { dst := _, op := _, type := _, pos := _, after := _, guard := _ }) rfl (fun K hK => ?_) AllReadyH.nil
          go_simp
          refine hK.out _ _ ?_ (fun hHeld => ?_)
          · (try dsimp only); exact keep10 (by omega) (by omega) (by omega) (by assumption)
          clear hK K
          try simp only [Act.put, List.setIfInBounds_toArray, List.set_cons_zero, List.set_cons_succ]
          refine wpAnyH_done (by kernel_rfl) ?_ _
          refine NoPanic.normal ?_
          have hF := (by assumption : Below w.heap.size w _ ∧ _ ∧ _ ∧ _ ∧ _ ∧ _ ∧ _ ∧ _ ∧ _ ∧ _ ∧ _ ∧ _ ∧ _ ∧ _).1
          have hfin := fin10 (A := w.heap.size + 1) (B := w.heap.size + 1 + 1) (by omega) hU2.out.2.2.2.2.2.2.1 hU2.out.2.2.2.2.2.2.2.1 hU2.out.2.2.2.2.2.2.2.2.1 hU2.out.2.2.2.2.2.2.2.2.2.1 hU2.out.2.2.2.2.2.2.2.2.2.2.1 hU2.out.2.2.2.2.2.2.2.2.2.2.2.1 (.int .i64 (s.pos + d.1)) (.int .i64 (s.charge - d.2)) (.bool s.bolted) (.int .i64 r) (.int .i64 d.1) (.int .i64 d.2)
          clear hHeld
          try clear hHeld
          generalize World.setCell (World.setCell _ _ _) _ _ = F at *
          obtain ⟨f0, f1, f2, f3, f4, f5⟩ := hfin
          go_wp2_with fail
          refine bodyPost_ret (v := .tuple #[.agg #[.int .i64 (s.pos + d.1), .int .i64 (s.charge - d.2), .bool s.bolted], .agg #[.int .i64 r, .int .i64 d.1, .int .i64 d.2]]) (by simp [results, Tryz.results28, go_sem, f0, f1, f2, f3, f4, f5]) rfl ⟨by rw [HE.out]; simp [hpw, hr], hF⟩
        · rw [hpw] at c25
          go_wp2_with fail
          have BU : StB w (mL g p s t') (Z.alloc (.cells #[.int .i64 (s.pos + d.1), .int .i64 (min (s.charge - d.2 + g.pump) g.cap), .bool s.bolted] 27)) := BZ.later ((Below.refl _ _).alloc (Nat.le_refl _) _)
          have k0 : (Z.alloc (.cells #[.int .i64 (s.pos + d.1), .int .i64 (min (s.charge - d.2 + g.pump) g.cap), .bool s.bolted] 27)).cell? ⟨Z.heap.size, 0, none⟩ = some (.int .i64 (s.pos + d.1)) := by simp [go_sem]
          have k1 : (Z.alloc (.cells #[.int .i64 (s.pos + d.1), .int .i64 (min (s.charge - d.2 + g.pump) g.cap), .bool s.bolted] 27)).cell? ⟨Z.heap.size, 1, none⟩ = some (.int .i64 (min (s.charge - d.2 + g.pump) g.cap)) := by simp [go_sem]
          have k2 : (Z.alloc (.cells #[.int .i64 (s.pos + d.1), .int .i64 (min (s.charge - d.2 + g.pump) g.cap), .bool s.bolted] 27)).cell? ⟨Z.heap.size, 2, none⟩ = some (.bool s.bolted) := by simp [go_sem]
          have BW : Below Z.heap.size Z (Z.alloc (.cells #[.int .i64 (s.pos + d.1), .int .i64 (min (s.charge - d.2 + g.pump) g.cap), .bool s.bolted] 27)) := (Below.refl _ _).alloc (Nat.le_refl _) _
          have u0 := (BW.cell xl).trans v0
          have u1 := (BW.cell xl).trans v1
          generalize World.alloc Z _ = U at *
          obtain ⟨hU, -, -, -, a0, a1, a2, m0, m1, m2, fs, fv⟩ := BU
          clear v0 v1 BZ c21 c22 c23 c25 c16 c17 l0 l1
          refine wp_region_noPanic ?_
          refine wp_region_held_drew (S := (fun w' => Below w.heap.size w w' ∧ w'.cell? ⟨Z.heap.size, 0, none⟩ = some (.int .i64 (s.pos + d.1)) ∧ w'.cell? ⟨Z.heap.size, 1, none⟩ = some (.int .i64 (min (s.charge - d.2 + g.pump) g.cap)) ∧ w'.cell? ⟨Z.heap.size, 2, none⟩ = some (.bool s.bolted) ∧ w'.cell? ⟨X, 0, none⟩ = some (.int .i64 d.1) ∧ w'.cell? ⟨X, 1, none⟩ = some (.int .i64 d.2) ∧ (∃ u, w'.cell? ⟨w.heap.size + 1, 0, none⟩ = some u) ∧ (∃ u, w'.cell? ⟨w.heap.size + 1, 1, none⟩ = some u) ∧ (∃ u, w'.cell? ⟨w.heap.size + 1, 2, none⟩ = some u) ∧ (∃ u, w'.cell? ⟨w.heap.size + 1 + 1, 0, none⟩ = some u) ∧ (∃ u, w'.cell? ⟨w.heap.size + 1 + 1, 1, none⟩ = some u) ∧ (∃ u, w'.cell? ⟨w.heap.size + 1 + 1, 2, none⟩ = some u) ∧ (∀ o, w'.frozen? ⟨w.heap.size + 1, o, none⟩ = false) ∧ (∀ o, w'.frozen? ⟨w.heap.size + 1 + 1, o, none⟩ = false))) (by kernel_rfl) ?_ (fun hHeld => ?_)
          · exact ⟨hU.drew, by simpa using k0, by simpa using k1, by simpa using k2, by simpa using u0, by simpa using u1, ⟨_, by simpa using a0⟩, ⟨_, by simpa using a1⟩, ⟨_, by simpa using a2⟩, ⟨_, by simpa using m0⟩, ⟨_, by simpa using m1⟩, ⟨_, by simpa using m2⟩, by simpa using fs, by simpa using fv⟩
          clear k0 k1 k2 u0 u1 a0 a1 a2 m0 m1 m2 fs fv hU
          refine wpAnyH_take (i := 0) (oi := { dst := _, op := _, type := _, pos := _, after := _, guard := _ }) (v := ?_) rfl (by kernel_rfl) (by kernel_rfl) (by kernel_rfl) (fun _ _ _ h => h) (Or.inl ⟨by rfl, ?_⟩) (by assumption) ?_
          rotate_left
          · intro wS hSw; (try dsimp only at hSw); go_simp; try (with_reducible rfl)
          try simp only [Act.put, List.setIfInBounds_toArray, List.set_cons_zero, List.set_cons_succ]
          refine wpAnyH_take (i := 1) (oi := { dst := _, op := _, type := _, pos := _, after := _, guard := _ }) (v := ?_) rfl (by kernel_rfl) (by kernel_rfl) (by kernel_rfl) (fun _ _ _ h => h) (Or.inl ⟨by rfl, ?_⟩) (by assumption) ?_
          rotate_left
          · intro wS hSw; (try dsimp only at hSw); go_simp; try (with_reducible rfl)
          try simp only [Act.put, List.setIfInBounds_toArray, List.set_cons_zero, List.set_cons_succ]
          refine wpAnyH_take (i := 2) (oi := { dst := _, op := _, type := _, pos := _, after := _, guard := _ }) (v := ?_) rfl (by kernel_rfl) (by kernel_rfl) (by kernel_rfl) (fun _ _ _ h => h) (Or.inl ⟨by rfl, ?_⟩) (by assumption) ?_
          rotate_left
          · intro wS hSw; (try dsimp only at hSw); go_simp; try (with_reducible rfl)
          try simp only [Act.put, List.setIfInBounds_toArray, List.set_cons_zero, List.set_cons_succ]
          refine wpAnyH_take (i := 3) (oi := { dst := _, op := _, type := _, pos := _, after := _, guard := _ }) (v := ?_) rfl (by kernel_rfl) (by kernel_rfl) (by kernel_rfl) (fun _ _ _ h => h) (Or.inl ⟨by rfl, ?_⟩) (by assumption) ?_
          rotate_left
          · intro wS hSw; (try dsimp only at hSw); go_simp; try (with_reducible rfl)
          try simp only [Act.put, List.setIfInBounds_toArray, List.set_cons_zero, List.set_cons_succ]
          refine wpAnyH_take (i := 4) (oi := { dst := _, op := _, type := _, pos := _, after := _, guard := _ }) (v := ?_) rfl (by kernel_rfl) (by kernel_rfl) (by kernel_rfl) (fun _ _ _ h => h) (Or.inl ⟨by rfl, ?_⟩) (by assumption) ?_
          rotate_left
          · intro wS hSw; (try dsimp only at hSw); go_simp; try (with_reducible rfl)
          try simp only [Act.put, List.setIfInBounds_toArray, List.set_cons_zero, List.set_cons_succ]
          refine wpAnyH_take (i := 5) (oi := { dst := _, op := _, type := _, pos := _, after := _, guard := _ }) (v := ?_) rfl (by kernel_rfl) (by kernel_rfl) (by kernel_rfl) (fun _ _ _ h => h) (Or.inl ⟨by rfl, ?_⟩) (by assumption) ?_
          rotate_left
          · intro wS hSw; (try dsimp only at hSw); go_simp; try (with_reducible rfl)
          try simp only [Act.put, List.setIfInBounds_toArray, List.set_cons_zero, List.set_cons_succ]
          refine wpAnyH_take (i := 6) (oi := { dst := _, op := _, type := _, pos := _, after := _, guard := _ }) (v := ?_) rfl (by kernel_rfl) (by kernel_rfl) (by kernel_rfl) (fun _ _ _ h => h) (Or.inl ⟨by rfl, ?_⟩) (by assumption) ?_
          rotate_left
          · intro wS hSw; (try dsimp only at hSw); go_simp; try (with_reducible rfl)
          try simp only [Act.put, List.setIfInBounds_toArray, List.set_cons_zero, List.set_cons_succ]
          generalize World.drew U = U2 at *
          have hU2 := hid (by assumption : Below w.heap.size w _ ∧ _ ∧ _ ∧ _ ∧ _ ∧ _ ∧ _ ∧ _ ∧ _ ∧ _ ∧ _ ∧ _ ∧ _ ∧ _)
          obtain ⟨-, -, -, -, -, -, ⟨p0, q0⟩, ⟨p1, q1⟩, ⟨p2, q2⟩, ⟨p3, q3⟩, ⟨p4, q4⟩, ⟨p5, q5⟩, g1, g2⟩ := (by assumption : Below w.heap.size w _ ∧ _ ∧ _ ∧ _ ∧ _ ∧ _ ∧ _ ∧ _ ∧ _ ∧ _ ∧ _ ∧ _ ∧ _ ∧ _)
          refine wpAnyH_ready (rs := [7]) (by kernel_rfl) (by simp) ?_
          refine AllReadyH.cons (o := { dst := _, op := _, type := _, pos := _, after := _, guard := _ }) rfl (fun K hK => ?_) AllReadyH.nil
          go_simp
          refine hK.out _ _ ?_ (fun hHeld => ?_)
          · (try dsimp only); exact keep10 (by omega) (by omega) (by omega) (by assumption)
          clear hK K
          try simp only [Act.put, List.setIfInBounds_toArray, List.set_cons_zero, List.set_cons_succ]
          clear q0 q1 q2 q3 q4 q5 g1 g2
          obtain ⟨-, -, -, -, -, -, ⟨p0, q0⟩, ⟨p1, q1⟩, ⟨p2, q2⟩, ⟨p3, q3⟩, ⟨p4, q4⟩, ⟨p5, q5⟩, g1, g2⟩ := (by assumption : Below w.heap.size w _ ∧ _ ∧ _ ∧ _ ∧ _ ∧ _ ∧ _ ∧ _ ∧ _ ∧ _ ∧ _ ∧ _ ∧ _ ∧ _)
          refine wpAnyH_ready (rs := [8]) (by kernel_rfl) (by simp) ?_
          refine AllReadyH.cons (o := { dst := _, op := _, type := _, pos := _, after := _, guard := _ }) rfl (fun K hK => ?_) AllReadyH.nil
          go_simp
          refine hK.out _ _ ?_ (fun hHeld => ?_)
          · (try dsimp only); exact keep10 (by omega) (by omega) (by omega) (by assumption)
          clear hK K
          try simp only [Act.put, List.setIfInBounds_toArray, List.set_cons_zero, List.set_cons_succ]
          refine wpAnyH_done (by kernel_rfl) ?_ _
          refine NoPanic.normal ?_
          have hF := (by assumption : Below w.heap.size w _ ∧ _ ∧ _ ∧ _ ∧ _ ∧ _ ∧ _ ∧ _ ∧ _ ∧ _ ∧ _ ∧ _ ∧ _ ∧ _).1
          have hfin := fin10 (A := w.heap.size + 1) (B := w.heap.size + 1 + 1) (by omega) hU2.out.2.2.2.2.2.2.1 hU2.out.2.2.2.2.2.2.2.1 hU2.out.2.2.2.2.2.2.2.2.1 hU2.out.2.2.2.2.2.2.2.2.2.1 hU2.out.2.2.2.2.2.2.2.2.2.2.1 hU2.out.2.2.2.2.2.2.2.2.2.2.2.1 (.int .i64 (s.pos + d.1)) (.int .i64 (min (s.charge - d.2 + g.pump) g.cap)) (.bool s.bolted) (.int .i64 r) (.int .i64 d.1) (.int .i64 d.2)
          clear hHeld
          try clear hHeld
          generalize World.setCell (World.setCell _ _ _) _ _ = F at *
          obtain ⟨f0, f1, f2, f3, f4, f5⟩ := hfin
          go_wp2_with fail
          refine bodyPost_ret (v := .tuple #[.agg #[.int .i64 (s.pos + d.1), .int .i64 (min (s.charge - d.2 + g.pump) g.cap), .bool s.bolted], .agg #[.int .i64 r, .int .i64 d.1, .int .i64 d.2]]) (by simp [results, Tryz.results28, go_sem, f0, f1, f2, f3, f4, f5]) rfl ⟨by rw [HE.out]; simp [hpw, hr], hF⟩
      · refine AllReadyH.cons (o := { dst := _, op := _, type := _, pos := _, after := _, guard := _ }) rfl (fun K hK => ?_) AllReadyH.nil
        have hX := (by assumption : StB w (mL g p s t') _).lt
        go_simp
        refine hK.out _ _ ?_ (fun hHeld => ?_)
        · (try dsimp only); first | assumption | exact StB.later (by assumption) (by assumption) | exact StB.later (by assumption) ((Below.refl _ _).alloc (Nat.le_refl _) _) | exact StB.sets (by assumption) hX
        clear hK K
        try simp only [Act.put, List.setIfInBounds_toArray, List.set_cons_zero, List.set_cons_succ]
        have BX := Box0.new w' 107
        obtain ⟨V2, hV2⟩ : ∃ X, X = w' := ⟨_, rfl⟩
        subst hV2
        refine wpAnyH_ready (rs := [3]) (by kernel_rfl) (by simp) ?_
        refine AllReadyH.cons (o := { dst := _, op := _, type := _, pos := _, after := _, guard := _ }) rfl (fun K hK => ?_) AllReadyH.nil
        go_simp
        (simp only [enters_act]; go_simp; go_at_fn (actN s t'); have hSc := (by assumption : StB w (mL g p s t') _); (with_reducible refine (HA.out _ hSc).mono ?_); clear hSc; rintro e w' ⟨rfl, hbe⟩)
        try go_wp2_with fail
        refine hK.out _ _ ?_ (fun hHeld => ?_)
        · (try dsimp only); first | assumption | exact StB.later (by assumption) (by assumption) | exact StB.later (by assumption) ((Below.refl _ _).alloc (Nat.le_refl _) _) | exact StB.sets (by assumption) hX
        clear hK K
        try simp only [Act.put, List.setIfInBounds_toArray, List.set_cons_zero, List.set_cons_succ]
        replace BX := BX.later hbe
        obtain ⟨x0, x1, y0, y1, xl⟩ := BX
        refine wpAnyH_ready (rs := [5]) (by kernel_rfl) (by simp) ?_
        refine AllReadyH.cons (o := { dst := _, op := _, type := _, pos := _, after := _, guard := _ }) rfl (fun K hK => ?_) AllReadyH.nil
        go_simp
        refine hK.out _ _ ?_ (fun hHeld => ?_)
        · (try dsimp only); first | assumption | exact StB.later (by assumption) (by assumption) | exact StB.later (by assumption) ((Below.refl _ _).alloc (Nat.le_refl _) _) | exact StB.sets (by assumption) hX
        clear hK K
        try simp only [Act.put, List.setIfInBounds_toArray, List.set_cons_zero, List.set_cons_succ]
        have BV := Box0.sets ⟨x0, x1, y0, y1, xl⟩ d.1 d.2
        clear x0 x1 y0 y1
        refine wpAnyH_done (by kernel_rfl) ?_ _
        refine NoPanic.normal ?_
        have BZ := (by assumption : StB w (mL g p s t') _)
        generalize World.setCell (World.setCell _ _ _) _ _ = Z at *
        clear hHeld
        generalize V2.heap.size = X at *
        obtain ⟨v0, v1, xl⟩ := BV
        have l0 : w.heap.size < Z.heap.size := by have := BZ.lt; omega
        have l1 : w.heap.size + 1 < Z.heap.size := by have := BZ.lt; omega
        have l2 := BZ.lt
        have c21 := range_cell BZ.rows (show (mL g p s t')[21]? = some (.int .i64 s.pos) from rfl)
        have c22 := range_cell BZ.rows (show (mL g p s t')[22]? = some (.int .i64 s.charge) from rfl)
        have c23 := range_cell BZ.rows (show (mL g p s t')[23]? = some (.bool s.bolted) from rfl)
        have c25 := range_cell BZ.rows (show (mL g p s t')[25]? = some (.bool t'.power) from rfl)
        have c16 := range_cell BZ.rows (show (mL g p s t')[16]? = some (.int .i64 g.pump) from rfl)
        have c17 := range_cell BZ.rows (show (mL g p s t')[17]? = some (.int .i64 g.cap) from rfl)
        rcases hpw : t'.power with _ | _
        · rw [hpw] at c25
          go_wp2_with fail
          have BU : StB w (mL g p s t') (Z.alloc (.cells #[.int .i64 (s.pos + d.1), .int .i64 (s.charge - d.2), .bool s.bolted] 27)) := BZ.later ((Below.refl _ _).alloc (Nat.le_refl _) _)
          have k0 : (Z.alloc (.cells #[.int .i64 (s.pos + d.1), .int .i64 (s.charge - d.2), .bool s.bolted] 27)).cell? ⟨Z.heap.size, 0, none⟩ = some (.int .i64 (s.pos + d.1)) := by simp [go_sem]
          have k1 : (Z.alloc (.cells #[.int .i64 (s.pos + d.1), .int .i64 (s.charge - d.2), .bool s.bolted] 27)).cell? ⟨Z.heap.size, 1, none⟩ = some (.int .i64 (s.charge - d.2)) := by simp [go_sem]
          have k2 : (Z.alloc (.cells #[.int .i64 (s.pos + d.1), .int .i64 (s.charge - d.2), .bool s.bolted] 27)).cell? ⟨Z.heap.size, 2, none⟩ = some (.bool s.bolted) := by simp [go_sem]
          have BW : Below Z.heap.size Z (Z.alloc (.cells #[.int .i64 (s.pos + d.1), .int .i64 (s.charge - d.2), .bool s.bolted] 27)) := (Below.refl _ _).alloc (Nat.le_refl _) _
          have u0 := (BW.cell xl).trans v0
          have u1 := (BW.cell xl).trans v1
          generalize World.alloc Z _ = U at *
          obtain ⟨hU, -, -, -, a0, a1, a2, m0, m1, m2, fs, fv⟩ := BU
          clear v0 v1 BZ c21 c22 c23 c25 c16 c17 l0 l1
          refine wp_region_noPanic ?_
          refine wp_region_held_drew (S := (fun w' => Below w.heap.size w w' ∧ w'.cell? ⟨Z.heap.size, 0, none⟩ = some (.int .i64 (s.pos + d.1)) ∧ w'.cell? ⟨Z.heap.size, 1, none⟩ = some (.int .i64 (s.charge - d.2)) ∧ w'.cell? ⟨Z.heap.size, 2, none⟩ = some (.bool s.bolted) ∧ w'.cell? ⟨X, 0, none⟩ = some (.int .i64 d.1) ∧ w'.cell? ⟨X, 1, none⟩ = some (.int .i64 d.2) ∧ (∃ u, w'.cell? ⟨w.heap.size + 1, 0, none⟩ = some u) ∧ (∃ u, w'.cell? ⟨w.heap.size + 1, 1, none⟩ = some u) ∧ (∃ u, w'.cell? ⟨w.heap.size + 1, 2, none⟩ = some u) ∧ (∃ u, w'.cell? ⟨w.heap.size + 1 + 1, 0, none⟩ = some u) ∧ (∃ u, w'.cell? ⟨w.heap.size + 1 + 1, 1, none⟩ = some u) ∧ (∃ u, w'.cell? ⟨w.heap.size + 1 + 1, 2, none⟩ = some u) ∧ (∀ o, w'.frozen? ⟨w.heap.size + 1, o, none⟩ = false) ∧ (∀ o, w'.frozen? ⟨w.heap.size + 1 + 1, o, none⟩ = false))) (by kernel_rfl) ?_ (fun hHeld => ?_)
          · exact ⟨hU.drew, by simpa using k0, by simpa using k1, by simpa using k2, by simpa using u0, by simpa using u1, ⟨_, by simpa using a0⟩, ⟨_, by simpa using a1⟩, ⟨_, by simpa using a2⟩, ⟨_, by simpa using m0⟩, ⟨_, by simpa using m1⟩, ⟨_, by simpa using m2⟩, by simpa using fs, by simpa using fv⟩
          clear k0 k1 k2 u0 u1 a0 a1 a2 m0 m1 m2 fs fv hU
          refine wpAnyH_take (i := 0) (oi := { dst := _, op := _, type := _, pos := _, after := _, guard := _ }) (v := ?_) rfl (by kernel_rfl) (by kernel_rfl) (by kernel_rfl) (fun _ _ _ h => h) (Or.inl ⟨by rfl, ?_⟩) (by assumption) ?_
          rotate_left
          · intro wS hSw; (try dsimp only at hSw); go_simp; try (with_reducible rfl)
          try simp only [Act.put, List.setIfInBounds_toArray, List.set_cons_zero, List.set_cons_succ]
          refine wpAnyH_take (i := 1) (oi := { dst := _, op := _, type := _, pos := _, after := _, guard := _ }) (v := ?_) rfl (by kernel_rfl) (by kernel_rfl) (by kernel_rfl) (fun _ _ _ h => h) (Or.inl ⟨by rfl, ?_⟩) (by assumption) ?_
          rotate_left
          · intro wS hSw; (try dsimp only at hSw); go_simp; try (with_reducible rfl)
          try simp only [Act.put, List.setIfInBounds_toArray, List.set_cons_zero, List.set_cons_succ]
          refine wpAnyH_take (i := 2) (oi := { dst := _, op := _, type := _, pos := _, after := _, guard := _ }) (v := ?_) rfl (by kernel_rfl) (by kernel_rfl) (by kernel_rfl) (fun _ _ _ h => h) (Or.inl ⟨by rfl, ?_⟩) (by assumption) ?_
          rotate_left
          · intro wS hSw; (try dsimp only at hSw); go_simp; try (with_reducible rfl)
          try simp only [Act.put, List.setIfInBounds_toArray, List.set_cons_zero, List.set_cons_succ]
          refine wpAnyH_take (i := 3) (oi := { dst := _, op := _, type := _, pos := _, after := _, guard := _ }) (v := ?_) rfl (by kernel_rfl) (by kernel_rfl) (by kernel_rfl) (fun _ _ _ h => h) (Or.inl ⟨by rfl, ?_⟩) (by assumption) ?_
          rotate_left
          · intro wS hSw; (try dsimp only at hSw); go_simp; try (with_reducible rfl)
          try simp only [Act.put, List.setIfInBounds_toArray, List.set_cons_zero, List.set_cons_succ]
          refine wpAnyH_take (i := 4) (oi := { dst := _, op := _, type := _, pos := _, after := _, guard := _ }) (v := ?_) rfl (by kernel_rfl) (by kernel_rfl) (by kernel_rfl) (fun _ _ _ h => h) (Or.inl ⟨by rfl, ?_⟩) (by assumption) ?_
          rotate_left
          · intro wS hSw; (try dsimp only at hSw); go_simp; try (with_reducible rfl)
          try simp only [Act.put, List.setIfInBounds_toArray, List.set_cons_zero, List.set_cons_succ]
          refine wpAnyH_take (i := 5) (oi := { dst := _, op := _, type := _, pos := _, after := _, guard := _ }) (v := ?_) rfl (by kernel_rfl) (by kernel_rfl) (by kernel_rfl) (fun _ _ _ h => h) (Or.inl ⟨by rfl, ?_⟩) (by assumption) ?_
          rotate_left
          · intro wS hSw; (try dsimp only at hSw); go_simp; try (with_reducible rfl)
          try simp only [Act.put, List.setIfInBounds_toArray, List.set_cons_zero, List.set_cons_succ]
          refine wpAnyH_take (i := 6) (oi := { dst := _, op := _, type := _, pos := _, after := _, guard := _ }) (v := ?_) rfl (by kernel_rfl) (by kernel_rfl) (by kernel_rfl) (fun _ _ _ h => h) (Or.inl ⟨by rfl, ?_⟩) (by assumption) ?_
          rotate_left
          · intro wS hSw; (try dsimp only at hSw); go_simp; try (with_reducible rfl)
          try simp only [Act.put, List.setIfInBounds_toArray, List.set_cons_zero, List.set_cons_succ]
          generalize World.drew U = U2 at *
          have hU2 := hid (by assumption : Below w.heap.size w _ ∧ _ ∧ _ ∧ _ ∧ _ ∧ _ ∧ _ ∧ _ ∧ _ ∧ _ ∧ _ ∧ _ ∧ _ ∧ _)
          obtain ⟨-, -, -, -, -, -, ⟨p0, q0⟩, ⟨p1, q1⟩, ⟨p2, q2⟩, ⟨p3, q3⟩, ⟨p4, q4⟩, ⟨p5, q5⟩, g1, g2⟩ := (by assumption : Below w.heap.size w _ ∧ _ ∧ _ ∧ _ ∧ _ ∧ _ ∧ _ ∧ _ ∧ _ ∧ _ ∧ _ ∧ _ ∧ _ ∧ _)
          refine wpAnyH_ready (rs := [7]) (by kernel_rfl) (by simp) ?_
          refine AllReadyH.cons (o := { dst := _, op := _, type := _, pos := _, after := _, guard := _ }) rfl (fun K hK => ?_) AllReadyH.nil
          go_simp
          refine hK.out _ _ ?_ (fun hHeld => ?_)
          · (try dsimp only); exact keep10 (by omega) (by omega) (by omega) (by assumption)
          clear hK K
          try simp only [Act.put, List.setIfInBounds_toArray, List.set_cons_zero, List.set_cons_succ]
          clear q0 q1 q2 q3 q4 q5 g1 g2
          obtain ⟨-, -, -, -, -, -, ⟨p0, q0⟩, ⟨p1, q1⟩, ⟨p2, q2⟩, ⟨p3, q3⟩, ⟨p4, q4⟩, ⟨p5, q5⟩, g1, g2⟩ := (by assumption : Below w.heap.size w _ ∧ _ ∧ _ ∧ _ ∧ _ ∧ _ ∧ _ ∧ _ ∧ _ ∧ _ ∧ _ ∧ _ ∧ _ ∧ _)
          refine wpAnyH_ready (rs := [8]) (by kernel_rfl) (by simp) ?_
          refine AllReadyH.cons (o := { dst := _, op := _, type := _, pos := _, after := _, guard := _ }) rfl (fun K hK => ?_) AllReadyH.nil
          go_simp
          refine hK.out _ _ ?_ (fun hHeld => ?_)
          · (try dsimp only); exact keep10 (by omega) (by omega) (by omega) (by assumption)
          clear hK K
          try simp only [Act.put, List.setIfInBounds_toArray, List.set_cons_zero, List.set_cons_succ]
          refine wpAnyH_done (by kernel_rfl) ?_ _
          refine NoPanic.normal ?_
          have hF := (by assumption : Below w.heap.size w _ ∧ _ ∧ _ ∧ _ ∧ _ ∧ _ ∧ _ ∧ _ ∧ _ ∧ _ ∧ _ ∧ _ ∧ _ ∧ _).1
          have hfin := fin10 (A := w.heap.size + 1) (B := w.heap.size + 1 + 1) (by omega) hU2.out.2.2.2.2.2.2.1 hU2.out.2.2.2.2.2.2.2.1 hU2.out.2.2.2.2.2.2.2.2.1 hU2.out.2.2.2.2.2.2.2.2.2.1 hU2.out.2.2.2.2.2.2.2.2.2.2.1 hU2.out.2.2.2.2.2.2.2.2.2.2.2.1 (.int .i64 (s.pos + d.1)) (.int .i64 (s.charge - d.2)) (.bool s.bolted) (.int .i64 r) (.int .i64 d.1) (.int .i64 d.2)
          clear hHeld
          try clear hHeld
          generalize World.setCell (World.setCell _ _ _) _ _ = F at *
          obtain ⟨f0, f1, f2, f3, f4, f5⟩ := hfin
          go_wp2_with fail
          refine bodyPost_ret (v := .tuple #[.agg #[.int .i64 (s.pos + d.1), .int .i64 (s.charge - d.2), .bool s.bolted], .agg #[.int .i64 r, .int .i64 d.1, .int .i64 d.2]]) (by simp [results, Tryz.results28, go_sem, f0, f1, f2, f3, f4, f5]) rfl ⟨by rw [HE.out]; simp [hpw, hr], hF⟩
        · rw [hpw] at c25
          go_wp2_with fail
          have BU : StB w (mL g p s t') (Z.alloc (.cells #[.int .i64 (s.pos + d.1), .int .i64 (min (s.charge - d.2 + g.pump) g.cap), .bool s.bolted] 27)) := BZ.later ((Below.refl _ _).alloc (Nat.le_refl _) _)
          have k0 : (Z.alloc (.cells #[.int .i64 (s.pos + d.1), .int .i64 (min (s.charge - d.2 + g.pump) g.cap), .bool s.bolted] 27)).cell? ⟨Z.heap.size, 0, none⟩ = some (.int .i64 (s.pos + d.1)) := by simp [go_sem]
          have k1 : (Z.alloc (.cells #[.int .i64 (s.pos + d.1), .int .i64 (min (s.charge - d.2 + g.pump) g.cap), .bool s.bolted] 27)).cell? ⟨Z.heap.size, 1, none⟩ = some (.int .i64 (min (s.charge - d.2 + g.pump) g.cap)) := by simp [go_sem]
          have k2 : (Z.alloc (.cells #[.int .i64 (s.pos + d.1), .int .i64 (min (s.charge - d.2 + g.pump) g.cap), .bool s.bolted] 27)).cell? ⟨Z.heap.size, 2, none⟩ = some (.bool s.bolted) := by simp [go_sem]
          have BW : Below Z.heap.size Z (Z.alloc (.cells #[.int .i64 (s.pos + d.1), .int .i64 (min (s.charge - d.2 + g.pump) g.cap), .bool s.bolted] 27)) := (Below.refl _ _).alloc (Nat.le_refl _) _
          have u0 := (BW.cell xl).trans v0
          have u1 := (BW.cell xl).trans v1
          generalize World.alloc Z _ = U at *
          obtain ⟨hU, -, -, -, a0, a1, a2, m0, m1, m2, fs, fv⟩ := BU
          clear v0 v1 BZ c21 c22 c23 c25 c16 c17 l0 l1
          refine wp_region_noPanic ?_
          refine wp_region_held_drew (S := (fun w' => Below w.heap.size w w' ∧ w'.cell? ⟨Z.heap.size, 0, none⟩ = some (.int .i64 (s.pos + d.1)) ∧ w'.cell? ⟨Z.heap.size, 1, none⟩ = some (.int .i64 (min (s.charge - d.2 + g.pump) g.cap)) ∧ w'.cell? ⟨Z.heap.size, 2, none⟩ = some (.bool s.bolted) ∧ w'.cell? ⟨X, 0, none⟩ = some (.int .i64 d.1) ∧ w'.cell? ⟨X, 1, none⟩ = some (.int .i64 d.2) ∧ (∃ u, w'.cell? ⟨w.heap.size + 1, 0, none⟩ = some u) ∧ (∃ u, w'.cell? ⟨w.heap.size + 1, 1, none⟩ = some u) ∧ (∃ u, w'.cell? ⟨w.heap.size + 1, 2, none⟩ = some u) ∧ (∃ u, w'.cell? ⟨w.heap.size + 1 + 1, 0, none⟩ = some u) ∧ (∃ u, w'.cell? ⟨w.heap.size + 1 + 1, 1, none⟩ = some u) ∧ (∃ u, w'.cell? ⟨w.heap.size + 1 + 1, 2, none⟩ = some u) ∧ (∀ o, w'.frozen? ⟨w.heap.size + 1, o, none⟩ = false) ∧ (∀ o, w'.frozen? ⟨w.heap.size + 1 + 1, o, none⟩ = false))) (by kernel_rfl) ?_ (fun hHeld => ?_)
          · exact ⟨hU.drew, by simpa using k0, by simpa using k1, by simpa using k2, by simpa using u0, by simpa using u1, ⟨_, by simpa using a0⟩, ⟨_, by simpa using a1⟩, ⟨_, by simpa using a2⟩, ⟨_, by simpa using m0⟩, ⟨_, by simpa using m1⟩, ⟨_, by simpa using m2⟩, by simpa using fs, by simpa using fv⟩
          clear k0 k1 k2 u0 u1 a0 a1 a2 m0 m1 m2 fs fv hU
          refine wpAnyH_take (i := 0) (oi := { dst := _, op := _, type := _, pos := _, after := _, guard := _ }) (v := ?_) rfl (by kernel_rfl) (by kernel_rfl) (by kernel_rfl) (fun _ _ _ h => h) (Or.inl ⟨by rfl, ?_⟩) (by assumption) ?_
          rotate_left
          · intro wS hSw; (try dsimp only at hSw); go_simp; try (with_reducible rfl)
          try simp only [Act.put, List.setIfInBounds_toArray, List.set_cons_zero, List.set_cons_succ]
          refine wpAnyH_take (i := 1) (oi := { dst := _, op := _, type := _, pos := _, after := _, guard := _ }) (v := ?_) rfl (by kernel_rfl) (by kernel_rfl) (by kernel_rfl) (fun _ _ _ h => h) (Or.inl ⟨by rfl, ?_⟩) (by assumption) ?_
          rotate_left
          · intro wS hSw; (try dsimp only at hSw); go_simp; try (with_reducible rfl)
          try simp only [Act.put, List.setIfInBounds_toArray, List.set_cons_zero, List.set_cons_succ]
          refine wpAnyH_take (i := 2) (oi := { dst := _, op := _, type := _, pos := _, after := _, guard := _ }) (v := ?_) rfl (by kernel_rfl) (by kernel_rfl) (by kernel_rfl) (fun _ _ _ h => h) (Or.inl ⟨by rfl, ?_⟩) (by assumption) ?_
          rotate_left
          · intro wS hSw; (try dsimp only at hSw); go_simp; try (with_reducible rfl)
          try simp only [Act.put, List.setIfInBounds_toArray, List.set_cons_zero, List.set_cons_succ]
          refine wpAnyH_take (i := 3) (oi := { dst := _, op := _, type := _, pos := _, after := _, guard := _ }) (v := ?_) rfl (by kernel_rfl) (by kernel_rfl) (by kernel_rfl) (fun _ _ _ h => h) (Or.inl ⟨by rfl, ?_⟩) (by assumption) ?_
          rotate_left
          · intro wS hSw; (try dsimp only at hSw); go_simp; try (with_reducible rfl)
          try simp only [Act.put, List.setIfInBounds_toArray, List.set_cons_zero, List.set_cons_succ]
          refine wpAnyH_take (i := 4) (oi := { dst := _, op := _, type := _, pos := _, after := _, guard := _ }) (v := ?_) rfl (by kernel_rfl) (by kernel_rfl) (by kernel_rfl) (fun _ _ _ h => h) (Or.inl ⟨by rfl, ?_⟩) (by assumption) ?_
          rotate_left
          · intro wS hSw; (try dsimp only at hSw); go_simp; try (with_reducible rfl)
          try simp only [Act.put, List.setIfInBounds_toArray, List.set_cons_zero, List.set_cons_succ]
          refine wpAnyH_take (i := 5) (oi := { dst := _, op := _, type := _, pos := _, after := _, guard := _ }) (v := ?_) rfl (by kernel_rfl) (by kernel_rfl) (by kernel_rfl) (fun _ _ _ h => h) (Or.inl ⟨by rfl, ?_⟩) (by assumption) ?_
          rotate_left
          · intro wS hSw; (try dsimp only at hSw); go_simp; try (with_reducible rfl)
          try simp only [Act.put, List.setIfInBounds_toArray, List.set_cons_zero, List.set_cons_succ]
          refine wpAnyH_take (i := 6) (oi := { dst := _, op := _, type := _, pos := _, after := _, guard := _ }) (v := ?_) rfl (by kernel_rfl) (by kernel_rfl) (by kernel_rfl) (fun _ _ _ h => h) (Or.inl ⟨by rfl, ?_⟩) (by assumption) ?_
          rotate_left
          · intro wS hSw; (try dsimp only at hSw); go_simp; try (with_reducible rfl)
          try simp only [Act.put, List.setIfInBounds_toArray, List.set_cons_zero, List.set_cons_succ]
          generalize World.drew U = U2 at *
          have hU2 := hid (by assumption : Below w.heap.size w _ ∧ _ ∧ _ ∧ _ ∧ _ ∧ _ ∧ _ ∧ _ ∧ _ ∧ _ ∧ _ ∧ _ ∧ _ ∧ _)
          obtain ⟨-, -, -, -, -, -, ⟨p0, q0⟩, ⟨p1, q1⟩, ⟨p2, q2⟩, ⟨p3, q3⟩, ⟨p4, q4⟩, ⟨p5, q5⟩, g1, g2⟩ := (by assumption : Below w.heap.size w _ ∧ _ ∧ _ ∧ _ ∧ _ ∧ _ ∧ _ ∧ _ ∧ _ ∧ _ ∧ _ ∧ _ ∧ _ ∧ _)
          refine wpAnyH_ready (rs := [7]) (by kernel_rfl) (by simp) ?_
          refine AllReadyH.cons (o := { dst := _, op := _, type := _, pos := _, after := _, guard := _ }) rfl (fun K hK => ?_) AllReadyH.nil
          go_simp
          refine hK.out _ _ ?_ (fun hHeld => ?_)
          · (try dsimp only); exact keep10 (by omega) (by omega) (by omega) (by assumption)
          clear hK K
          try simp only [Act.put, List.setIfInBounds_toArray, List.set_cons_zero, List.set_cons_succ]
          clear q0 q1 q2 q3 q4 q5 g1 g2
          obtain ⟨-, -, -, -, -, -, ⟨p0, q0⟩, ⟨p1, q1⟩, ⟨p2, q2⟩, ⟨p3, q3⟩, ⟨p4, q4⟩, ⟨p5, q5⟩, g1, g2⟩ := (by assumption : Below w.heap.size w _ ∧ _ ∧ _ ∧ _ ∧ _ ∧ _ ∧ _ ∧ _ ∧ _ ∧ _ ∧ _ ∧ _ ∧ _ ∧ _)
          refine wpAnyH_ready (rs := [8]) (by kernel_rfl) (by simp) ?_
          refine AllReadyH.cons (o := { dst := _, op := _, type := _, pos := _, after := _, guard := _ }) rfl (fun K hK => ?_) AllReadyH.nil
          go_simp
          refine hK.out _ _ ?_ (fun hHeld => ?_)
          · (try dsimp only); exact keep10 (by omega) (by omega) (by omega) (by assumption)
          clear hK K
          try simp only [Act.put, List.setIfInBounds_toArray, List.set_cons_zero, List.set_cons_succ]
          refine wpAnyH_done (by kernel_rfl) ?_ _
          refine NoPanic.normal ?_
          have hF := (by assumption : Below w.heap.size w _ ∧ _ ∧ _ ∧ _ ∧ _ ∧ _ ∧ _ ∧ _ ∧ _ ∧ _ ∧ _ ∧ _ ∧ _ ∧ _).1
          have hfin := fin10 (A := w.heap.size + 1) (B := w.heap.size + 1 + 1) (by omega) hU2.out.2.2.2.2.2.2.1 hU2.out.2.2.2.2.2.2.2.1 hU2.out.2.2.2.2.2.2.2.2.1 hU2.out.2.2.2.2.2.2.2.2.2.1 hU2.out.2.2.2.2.2.2.2.2.2.2.1 hU2.out.2.2.2.2.2.2.2.2.2.2.2.1 (.int .i64 (s.pos + d.1)) (.int .i64 (min (s.charge - d.2 + g.pump) g.cap)) (.bool s.bolted) (.int .i64 r) (.int .i64 d.1) (.int .i64 d.2)
          clear hHeld
          try clear hHeld
          generalize World.setCell (World.setCell _ _ _) _ _ = F at *
          obtain ⟨f0, f1, f2, f3, f4, f5⟩ := hfin
          go_wp2_with fail
          refine bodyPost_ret (v := .tuple #[.agg #[.int .i64 (s.pos + d.1), .int .i64 (min (s.charge - d.2 + g.pump) g.cap), .bool s.bolted], .agg #[.int .i64 r, .int .i64 d.1, .int .i64 d.2]]) (by simp [results, Tryz.results28, go_sem, f0, f1, f2, f3, f4, f5]) rfl ⟨by rw [HE.out]; simp [hpw, hr], hF⟩
    · refine AllReadyH.cons (o := { dst := _, op := _, type := _, pos := _, after := _, guard := _ }) rfl (fun K hK => ?_) AllReadyH.nil
      have hdz : (World.drew V).heap.size = V.heap.size := by simp
      have hX := B2.lt
      go_simp
      refine hK.out _ _ ?_ (fun hHeld => ?_)
      · (try dsimp only); first | assumption | exact StB.later (by assumption) (by assumption) | exact StB.later (by assumption) ((Below.refl _ _).alloc (Nat.le_refl _) _) | exact StB.sets (by assumption) hX
      clear hK K
      try simp only [Act.put, List.setIfInBounds_toArray, List.set_cons_zero, List.set_cons_succ]
      have BX := Box0.new (World.drew V) 107
      rw [hdz] at BX
      clear hdz
      refine wpAnyH_ready (rs := [1]) (by kernel_rfl) (by simp) ?_
      refine AllReadyH.cons (o := { dst := _, op := _, type := _, pos := _, after := _, guard := _ }) rfl (fun K hK => ?_) AllReadyH.nil
      go_simp
      (go_at_call 62; (with_reducible refine (HAc.out _).mono ?_); rintro e w' ⟨rfl, hbe⟩)
      try go_wp2_with fail
      refine hK.out _ _ ?_ (fun hHeld => ?_)
      · (try dsimp only); first | assumption | exact StB.later (by assumption) (by assumption) | exact StB.later (by assumption) ((Below.refl _ _).alloc (Nat.le_refl _) _) | exact StB.sets (by assumption) hX
      clear hK K
      try simp only [Act.put, List.setIfInBounds_toArray, List.set_cons_zero, List.set_cons_succ]
      replace BX := BX.later hbe
      refine wpAnyH_ready (rs := [3]) (by kernel_rfl) (by simp) ?_
      refine AllReadyH.cons (o := { dst := _, op := _, type := _, pos := _, after := _, guard := _ }) rfl (fun K hK => ?_) AllReadyH.nil
      go_simp
      (simp only [enters_act]; go_simp; go_at_fn (actN s t'); have hSc := (by assumption : StB w (mL g p s t') _); (with_reducible refine (HA.out _ hSc).mono ?_); clear hSc; rintro e w' ⟨rfl, hbe⟩)
      try go_wp2_with fail
      refine hK.out _ _ ?_ (fun hHeld => ?_)
      · (try dsimp only); first | assumption | exact StB.later (by assumption) (by assumption) | exact StB.later (by assumption) ((Below.refl _ _).alloc (Nat.le_refl _) _) | exact StB.sets (by assumption) hX
      clear hK K
      try simp only [Act.put, List.setIfInBounds_toArray, List.set_cons_zero, List.set_cons_succ]
      replace BX := BX.later hbe
      obtain ⟨x0, x1, y0, y1, xl⟩ := BX
      refine wpAnyH_ready (rs := [5]) (by kernel_rfl) (by simp) ?_
      refine AllReadyH.cons (o := { dst := _, op := _, type := _, pos := _, after := _, guard := _ }) rfl (fun K hK => ?_) AllReadyH.nil
      go_simp
      refine hK.out _ _ ?_ (fun hHeld => ?_)
      · (try dsimp only); first | assumption | exact StB.later (by assumption) (by assumption) | exact StB.later (by assumption) ((Below.refl _ _).alloc (Nat.le_refl _) _) | exact StB.sets (by assumption) hX
      clear hK K
      try simp only [Act.put, List.setIfInBounds_toArray, List.set_cons_zero, List.set_cons_succ]
      have BV := Box0.sets ⟨x0, x1, y0, y1, xl⟩ d.1 d.2
      clear x0 x1 y0 y1
      refine wpAnyH_done (by kernel_rfl) ?_ _
      refine NoPanic.normal ?_
      have BZ := (by assumption : StB w (mL g p s t') _)
      generalize World.setCell (World.setCell _ _ _) _ _ = Z at *
      clear hHeld
      generalize V.heap.size = X at *
      obtain ⟨v0, v1, xl⟩ := BV
      have l0 : w.heap.size < Z.heap.size := by have := BZ.lt; omega
      have l1 : w.heap.size + 1 < Z.heap.size := by have := BZ.lt; omega
      have l2 := BZ.lt
      have c21 := range_cell BZ.rows (show (mL g p s t')[21]? = some (.int .i64 s.pos) from rfl)
      have c22 := range_cell BZ.rows (show (mL g p s t')[22]? = some (.int .i64 s.charge) from rfl)
      have c23 := range_cell BZ.rows (show (mL g p s t')[23]? = some (.bool s.bolted) from rfl)
      have c25 := range_cell BZ.rows (show (mL g p s t')[25]? = some (.bool t'.power) from rfl)
      have c16 := range_cell BZ.rows (show (mL g p s t')[16]? = some (.int .i64 g.pump) from rfl)
      have c17 := range_cell BZ.rows (show (mL g p s t')[17]? = some (.int .i64 g.cap) from rfl)
      rcases hpw : t'.power with _ | _
      · rw [hpw] at c25
        go_wp2_with fail
        have BU : StB w (mL g p s t') (Z.alloc (.cells #[.int .i64 (s.pos + d.1), .int .i64 (s.charge - d.2), .bool s.bolted] 27)) := BZ.later ((Below.refl _ _).alloc (Nat.le_refl _) _)
        have k0 : (Z.alloc (.cells #[.int .i64 (s.pos + d.1), .int .i64 (s.charge - d.2), .bool s.bolted] 27)).cell? ⟨Z.heap.size, 0, none⟩ = some (.int .i64 (s.pos + d.1)) := by simp [go_sem]
        have k1 : (Z.alloc (.cells #[.int .i64 (s.pos + d.1), .int .i64 (s.charge - d.2), .bool s.bolted] 27)).cell? ⟨Z.heap.size, 1, none⟩ = some (.int .i64 (s.charge - d.2)) := by simp [go_sem]
        have k2 : (Z.alloc (.cells #[.int .i64 (s.pos + d.1), .int .i64 (s.charge - d.2), .bool s.bolted] 27)).cell? ⟨Z.heap.size, 2, none⟩ = some (.bool s.bolted) := by simp [go_sem]
        have BW : Below Z.heap.size Z (Z.alloc (.cells #[.int .i64 (s.pos + d.1), .int .i64 (s.charge - d.2), .bool s.bolted] 27)) := (Below.refl _ _).alloc (Nat.le_refl _) _
        have u0 := (BW.cell xl).trans v0
        have u1 := (BW.cell xl).trans v1
        generalize World.alloc Z _ = U at *
        obtain ⟨hU, -, -, -, a0, a1, a2, m0, m1, m2, fs, fv⟩ := BU
        clear v0 v1 BZ c21 c22 c23 c25 c16 c17 l0 l1
        refine wp_region_noPanic ?_
        refine wp_region_held_drew (S := (fun w' => Below w.heap.size w w' ∧ w'.cell? ⟨Z.heap.size, 0, none⟩ = some (.int .i64 (s.pos + d.1)) ∧ w'.cell? ⟨Z.heap.size, 1, none⟩ = some (.int .i64 (s.charge - d.2)) ∧ w'.cell? ⟨Z.heap.size, 2, none⟩ = some (.bool s.bolted) ∧ w'.cell? ⟨X, 0, none⟩ = some (.int .i64 d.1) ∧ w'.cell? ⟨X, 1, none⟩ = some (.int .i64 d.2) ∧ (∃ u, w'.cell? ⟨w.heap.size + 1, 0, none⟩ = some u) ∧ (∃ u, w'.cell? ⟨w.heap.size + 1, 1, none⟩ = some u) ∧ (∃ u, w'.cell? ⟨w.heap.size + 1, 2, none⟩ = some u) ∧ (∃ u, w'.cell? ⟨w.heap.size + 1 + 1, 0, none⟩ = some u) ∧ (∃ u, w'.cell? ⟨w.heap.size + 1 + 1, 1, none⟩ = some u) ∧ (∃ u, w'.cell? ⟨w.heap.size + 1 + 1, 2, none⟩ = some u) ∧ (∀ o, w'.frozen? ⟨w.heap.size + 1, o, none⟩ = false) ∧ (∀ o, w'.frozen? ⟨w.heap.size + 1 + 1, o, none⟩ = false))) (by kernel_rfl) ?_ (fun hHeld => ?_)
        · exact ⟨hU.drew, by simpa using k0, by simpa using k1, by simpa using k2, by simpa using u0, by simpa using u1, ⟨_, by simpa using a0⟩, ⟨_, by simpa using a1⟩, ⟨_, by simpa using a2⟩, ⟨_, by simpa using m0⟩, ⟨_, by simpa using m1⟩, ⟨_, by simpa using m2⟩, by simpa using fs, by simpa using fv⟩
        clear k0 k1 k2 u0 u1 a0 a1 a2 m0 m1 m2 fs fv hU
        refine wpAnyH_take (i := 0) (oi := { dst := _, op := _, type := _, pos := _, after := _, guard := _ }) (v := ?_) rfl (by kernel_rfl) (by kernel_rfl) (by kernel_rfl) (fun _ _ _ h => h) (Or.inl ⟨by rfl, ?_⟩) (by assumption) ?_
        rotate_left
        · intro wS hSw; (try dsimp only at hSw); go_simp; try (with_reducible rfl)
        try simp only [Act.put, List.setIfInBounds_toArray, List.set_cons_zero, List.set_cons_succ]
        refine wpAnyH_take (i := 1) (oi := { dst := _, op := _, type := _, pos := _, after := _, guard := _ }) (v := ?_) rfl (by kernel_rfl) (by kernel_rfl) (by kernel_rfl) (fun _ _ _ h => h) (Or.inl ⟨by rfl, ?_⟩) (by assumption) ?_
        rotate_left
        · intro wS hSw; (try dsimp only at hSw); go_simp; try (with_reducible rfl)
        try simp only [Act.put, List.setIfInBounds_toArray, List.set_cons_zero, List.set_cons_succ]
        refine wpAnyH_take (i := 2) (oi := { dst := _, op := _, type := _, pos := _, after := _, guard := _ }) (v := ?_) rfl (by kernel_rfl) (by kernel_rfl) (by kernel_rfl) (fun _ _ _ h => h) (Or.inl ⟨by rfl, ?_⟩) (by assumption) ?_
        rotate_left
        · intro wS hSw; (try dsimp only at hSw); go_simp; try (with_reducible rfl)
        try simp only [Act.put, List.setIfInBounds_toArray, List.set_cons_zero, List.set_cons_succ]
        refine wpAnyH_take (i := 3) (oi := { dst := _, op := _, type := _, pos := _, after := _, guard := _ }) (v := ?_) rfl (by kernel_rfl) (by kernel_rfl) (by kernel_rfl) (fun _ _ _ h => h) (Or.inl ⟨by rfl, ?_⟩) (by assumption) ?_
        rotate_left
        · intro wS hSw; (try dsimp only at hSw); go_simp; try (with_reducible rfl)
        try simp only [Act.put, List.setIfInBounds_toArray, List.set_cons_zero, List.set_cons_succ]
        refine wpAnyH_take (i := 4) (oi := { dst := _, op := _, type := _, pos := _, after := _, guard := _ }) (v := ?_) rfl (by kernel_rfl) (by kernel_rfl) (by kernel_rfl) (fun _ _ _ h => h) (Or.inl ⟨by rfl, ?_⟩) (by assumption) ?_
        rotate_left
        · intro wS hSw; (try dsimp only at hSw); go_simp; try (with_reducible rfl)
        try simp only [Act.put, List.setIfInBounds_toArray, List.set_cons_zero, List.set_cons_succ]
        refine wpAnyH_take (i := 5) (oi := { dst := _, op := _, type := _, pos := _, after := _, guard := _ }) (v := ?_) rfl (by kernel_rfl) (by kernel_rfl) (by kernel_rfl) (fun _ _ _ h => h) (Or.inl ⟨by rfl, ?_⟩) (by assumption) ?_
        rotate_left
        · intro wS hSw; (try dsimp only at hSw); go_simp; try (with_reducible rfl)
        try simp only [Act.put, List.setIfInBounds_toArray, List.set_cons_zero, List.set_cons_succ]
        refine wpAnyH_take (i := 6) (oi := { dst := _, op := _, type := _, pos := _, after := _, guard := _ }) (v := ?_) rfl (by kernel_rfl) (by kernel_rfl) (by kernel_rfl) (fun _ _ _ h => h) (Or.inl ⟨by rfl, ?_⟩) (by assumption) ?_
        rotate_left
        · intro wS hSw; (try dsimp only at hSw); go_simp; try (with_reducible rfl)
        try simp only [Act.put, List.setIfInBounds_toArray, List.set_cons_zero, List.set_cons_succ]
        generalize World.drew U = U2 at *
        have hU2 := hid (by assumption : Below w.heap.size w _ ∧ _ ∧ _ ∧ _ ∧ _ ∧ _ ∧ _ ∧ _ ∧ _ ∧ _ ∧ _ ∧ _ ∧ _ ∧ _)
        obtain ⟨-, -, -, -, -, -, ⟨p0, q0⟩, ⟨p1, q1⟩, ⟨p2, q2⟩, ⟨p3, q3⟩, ⟨p4, q4⟩, ⟨p5, q5⟩, g1, g2⟩ := (by assumption : Below w.heap.size w _ ∧ _ ∧ _ ∧ _ ∧ _ ∧ _ ∧ _ ∧ _ ∧ _ ∧ _ ∧ _ ∧ _ ∧ _ ∧ _)
        refine wpAnyH_ready (rs := [7]) (by kernel_rfl) (by simp) ?_
        refine AllReadyH.cons (o := { dst := _, op := _, type := _, pos := _, after := _, guard := _ }) rfl (fun K hK => ?_) AllReadyH.nil
        go_simp
        refine hK.out _ _ ?_ (fun hHeld => ?_)
        · (try dsimp only); exact keep10 (by omega) (by omega) (by omega) (by assumption)
        clear hK K
        try simp only [Act.put, List.setIfInBounds_toArray, List.set_cons_zero, List.set_cons_succ]
        clear q0 q1 q2 q3 q4 q5 g1 g2
        obtain ⟨-, -, -, -, -, -, ⟨p0, q0⟩, ⟨p1, q1⟩, ⟨p2, q2⟩, ⟨p3, q3⟩, ⟨p4, q4⟩, ⟨p5, q5⟩, g1, g2⟩ := (by assumption : Below w.heap.size w _ ∧ _ ∧ _ ∧ _ ∧ _ ∧ _ ∧ _ ∧ _ ∧ _ ∧ _ ∧ _ ∧ _ ∧ _ ∧ _)
        refine wpAnyH_ready (rs := [8]) (by kernel_rfl) (by simp) ?_
        refine AllReadyH.cons (o := { dst := _, op := _, type := _, pos := _, after := _, guard := _ }) rfl (fun K hK => ?_) AllReadyH.nil
        go_simp
        refine hK.out _ _ ?_ (fun hHeld => ?_)
        · (try dsimp only); exact keep10 (by omega) (by omega) (by omega) (by assumption)
        clear hK K
        try simp only [Act.put, List.setIfInBounds_toArray, List.set_cons_zero, List.set_cons_succ]
        refine wpAnyH_done (by kernel_rfl) ?_ _
        refine NoPanic.normal ?_
        have hF := (by assumption : Below w.heap.size w _ ∧ _ ∧ _ ∧ _ ∧ _ ∧ _ ∧ _ ∧ _ ∧ _ ∧ _ ∧ _ ∧ _ ∧ _ ∧ _).1
        have hfin := fin10 (A := w.heap.size + 1) (B := w.heap.size + 1 + 1) (by omega) hU2.out.2.2.2.2.2.2.1 hU2.out.2.2.2.2.2.2.2.1 hU2.out.2.2.2.2.2.2.2.2.1 hU2.out.2.2.2.2.2.2.2.2.2.1 hU2.out.2.2.2.2.2.2.2.2.2.2.1 hU2.out.2.2.2.2.2.2.2.2.2.2.2.1 (.int .i64 (s.pos + d.1)) (.int .i64 (s.charge - d.2)) (.bool s.bolted) (.int .i64 r) (.int .i64 d.1) (.int .i64 d.2)
        clear hHeld
        try clear hHeld
        generalize World.setCell (World.setCell _ _ _) _ _ = F at *
        obtain ⟨f0, f1, f2, f3, f4, f5⟩ := hfin
        go_wp2_with fail
        refine bodyPost_ret (v := .tuple #[.agg #[.int .i64 (s.pos + d.1), .int .i64 (s.charge - d.2), .bool s.bolted], .agg #[.int .i64 r, .int .i64 d.1, .int .i64 d.2]]) (by simp [results, Tryz.results28, go_sem, f0, f1, f2, f3, f4, f5]) rfl ⟨by rw [HE.out]; simp [hpw, hr], hF⟩
      · rw [hpw] at c25
        go_wp2_with fail
        have BU : StB w (mL g p s t') (Z.alloc (.cells #[.int .i64 (s.pos + d.1), .int .i64 (min (s.charge - d.2 + g.pump) g.cap), .bool s.bolted] 27)) := BZ.later ((Below.refl _ _).alloc (Nat.le_refl _) _)
        have k0 : (Z.alloc (.cells #[.int .i64 (s.pos + d.1), .int .i64 (min (s.charge - d.2 + g.pump) g.cap), .bool s.bolted] 27)).cell? ⟨Z.heap.size, 0, none⟩ = some (.int .i64 (s.pos + d.1)) := by simp [go_sem]
        have k1 : (Z.alloc (.cells #[.int .i64 (s.pos + d.1), .int .i64 (min (s.charge - d.2 + g.pump) g.cap), .bool s.bolted] 27)).cell? ⟨Z.heap.size, 1, none⟩ = some (.int .i64 (min (s.charge - d.2 + g.pump) g.cap)) := by simp [go_sem]
        have k2 : (Z.alloc (.cells #[.int .i64 (s.pos + d.1), .int .i64 (min (s.charge - d.2 + g.pump) g.cap), .bool s.bolted] 27)).cell? ⟨Z.heap.size, 2, none⟩ = some (.bool s.bolted) := by simp [go_sem]
        have BW : Below Z.heap.size Z (Z.alloc (.cells #[.int .i64 (s.pos + d.1), .int .i64 (min (s.charge - d.2 + g.pump) g.cap), .bool s.bolted] 27)) := (Below.refl _ _).alloc (Nat.le_refl _) _
        have u0 := (BW.cell xl).trans v0
        have u1 := (BW.cell xl).trans v1
        generalize World.alloc Z _ = U at *
        obtain ⟨hU, -, -, -, a0, a1, a2, m0, m1, m2, fs, fv⟩ := BU
        clear v0 v1 BZ c21 c22 c23 c25 c16 c17 l0 l1
        refine wp_region_noPanic ?_
        refine wp_region_held_drew (S := (fun w' => Below w.heap.size w w' ∧ w'.cell? ⟨Z.heap.size, 0, none⟩ = some (.int .i64 (s.pos + d.1)) ∧ w'.cell? ⟨Z.heap.size, 1, none⟩ = some (.int .i64 (min (s.charge - d.2 + g.pump) g.cap)) ∧ w'.cell? ⟨Z.heap.size, 2, none⟩ = some (.bool s.bolted) ∧ w'.cell? ⟨X, 0, none⟩ = some (.int .i64 d.1) ∧ w'.cell? ⟨X, 1, none⟩ = some (.int .i64 d.2) ∧ (∃ u, w'.cell? ⟨w.heap.size + 1, 0, none⟩ = some u) ∧ (∃ u, w'.cell? ⟨w.heap.size + 1, 1, none⟩ = some u) ∧ (∃ u, w'.cell? ⟨w.heap.size + 1, 2, none⟩ = some u) ∧ (∃ u, w'.cell? ⟨w.heap.size + 1 + 1, 0, none⟩ = some u) ∧ (∃ u, w'.cell? ⟨w.heap.size + 1 + 1, 1, none⟩ = some u) ∧ (∃ u, w'.cell? ⟨w.heap.size + 1 + 1, 2, none⟩ = some u) ∧ (∀ o, w'.frozen? ⟨w.heap.size + 1, o, none⟩ = false) ∧ (∀ o, w'.frozen? ⟨w.heap.size + 1 + 1, o, none⟩ = false))) (by kernel_rfl) ?_ (fun hHeld => ?_)
        · exact ⟨hU.drew, by simpa using k0, by simpa using k1, by simpa using k2, by simpa using u0, by simpa using u1, ⟨_, by simpa using a0⟩, ⟨_, by simpa using a1⟩, ⟨_, by simpa using a2⟩, ⟨_, by simpa using m0⟩, ⟨_, by simpa using m1⟩, ⟨_, by simpa using m2⟩, by simpa using fs, by simpa using fv⟩
        clear k0 k1 k2 u0 u1 a0 a1 a2 m0 m1 m2 fs fv hU
        refine wpAnyH_take (i := 0) (oi := { dst := _, op := _, type := _, pos := _, after := _, guard := _ }) (v := ?_) rfl (by kernel_rfl) (by kernel_rfl) (by kernel_rfl) (fun _ _ _ h => h) (Or.inl ⟨by rfl, ?_⟩) (by assumption) ?_
        rotate_left
        · intro wS hSw; (try dsimp only at hSw); go_simp; try (with_reducible rfl)
        try simp only [Act.put, List.setIfInBounds_toArray, List.set_cons_zero, List.set_cons_succ]
        refine wpAnyH_take (i := 1) (oi := { dst := _, op := _, type := _, pos := _, after := _, guard := _ }) (v := ?_) rfl (by kernel_rfl) (by kernel_rfl) (by kernel_rfl) (fun _ _ _ h => h) (Or.inl ⟨by rfl, ?_⟩) (by assumption) ?_
        rotate_left
        · intro wS hSw; (try dsimp only at hSw); go_simp; try (with_reducible rfl)
        try simp only [Act.put, List.setIfInBounds_toArray, List.set_cons_zero, List.set_cons_succ]
        refine wpAnyH_take (i := 2) (oi := { dst := _, op := _, type := _, pos := _, after := _, guard := _ }) (v := ?_) rfl (by kernel_rfl) (by kernel_rfl) (by kernel_rfl) (fun _ _ _ h => h) (Or.inl ⟨by rfl, ?_⟩) (by assumption) ?_
        rotate_left
        · intro wS hSw; (try dsimp only at hSw); go_simp; try (with_reducible rfl)
        try simp only [Act.put, List.setIfInBounds_toArray, List.set_cons_zero, List.set_cons_succ]
        refine wpAnyH_take (i := 3) (oi := { dst := _, op := _, type := _, pos := _, after := _, guard := _ }) (v := ?_) rfl (by kernel_rfl) (by kernel_rfl) (by kernel_rfl) (fun _ _ _ h => h) (Or.inl ⟨by rfl, ?_⟩) (by assumption) ?_
        rotate_left
        · intro wS hSw; (try dsimp only at hSw); go_simp; try (with_reducible rfl)
        try simp only [Act.put, List.setIfInBounds_toArray, List.set_cons_zero, List.set_cons_succ]
        refine wpAnyH_take (i := 4) (oi := { dst := _, op := _, type := _, pos := _, after := _, guard := _ }) (v := ?_) rfl (by kernel_rfl) (by kernel_rfl) (by kernel_rfl) (fun _ _ _ h => h) (Or.inl ⟨by rfl, ?_⟩) (by assumption) ?_
        rotate_left
        · intro wS hSw; (try dsimp only at hSw); go_simp; try (with_reducible rfl)
        try simp only [Act.put, List.setIfInBounds_toArray, List.set_cons_zero, List.set_cons_succ]
        refine wpAnyH_take (i := 5) (oi := { dst := _, op := _, type := _, pos := _, after := _, guard := _ }) (v := ?_) rfl (by kernel_rfl) (by kernel_rfl) (by kernel_rfl) (fun _ _ _ h => h) (Or.inl ⟨by rfl, ?_⟩) (by assumption) ?_
        rotate_left
        · intro wS hSw; (try dsimp only at hSw); go_simp; try (with_reducible rfl)
        try simp only [Act.put, List.setIfInBounds_toArray, List.set_cons_zero, List.set_cons_succ]
        refine wpAnyH_take (i := 6) (oi := { dst := _, op := _, type := _, pos := _, after := _, guard := _ }) (v := ?_) rfl (by kernel_rfl) (by kernel_rfl) (by kernel_rfl) (fun _ _ _ h => h) (Or.inl ⟨by rfl, ?_⟩) (by assumption) ?_
        rotate_left
        · intro wS hSw; (try dsimp only at hSw); go_simp; try (with_reducible rfl)
        try simp only [Act.put, List.setIfInBounds_toArray, List.set_cons_zero, List.set_cons_succ]
        generalize World.drew U = U2 at *
        have hU2 := hid (by assumption : Below w.heap.size w _ ∧ _ ∧ _ ∧ _ ∧ _ ∧ _ ∧ _ ∧ _ ∧ _ ∧ _ ∧ _ ∧ _ ∧ _ ∧ _)
        obtain ⟨-, -, -, -, -, -, ⟨p0, q0⟩, ⟨p1, q1⟩, ⟨p2, q2⟩, ⟨p3, q3⟩, ⟨p4, q4⟩, ⟨p5, q5⟩, g1, g2⟩ := (by assumption : Below w.heap.size w _ ∧ _ ∧ _ ∧ _ ∧ _ ∧ _ ∧ _ ∧ _ ∧ _ ∧ _ ∧ _ ∧ _ ∧ _ ∧ _)
        refine wpAnyH_ready (rs := [7]) (by kernel_rfl) (by simp) ?_
        refine AllReadyH.cons (o := { dst := _, op := _, type := _, pos := _, after := _, guard := _ }) rfl (fun K hK => ?_) AllReadyH.nil
        go_simp
        refine hK.out _ _ ?_ (fun hHeld => ?_)
        · (try dsimp only); exact keep10 (by omega) (by omega) (by omega) (by assumption)
        clear hK K
        try simp only [Act.put, List.setIfInBounds_toArray, List.set_cons_zero, List.set_cons_succ]
        clear q0 q1 q2 q3 q4 q5 g1 g2
        obtain ⟨-, -, -, -, -, -, ⟨p0, q0⟩, ⟨p1, q1⟩, ⟨p2, q2⟩, ⟨p3, q3⟩, ⟨p4, q4⟩, ⟨p5, q5⟩, g1, g2⟩ := (by assumption : Below w.heap.size w _ ∧ _ ∧ _ ∧ _ ∧ _ ∧ _ ∧ _ ∧ _ ∧ _ ∧ _ ∧ _ ∧ _ ∧ _ ∧ _)
        refine wpAnyH_ready (rs := [8]) (by kernel_rfl) (by simp) ?_
        refine AllReadyH.cons (o := { dst := _, op := _, type := _, pos := _, after := _, guard := _ }) rfl (fun K hK => ?_) AllReadyH.nil
        go_simp
        refine hK.out _ _ ?_ (fun hHeld => ?_)
        · (try dsimp only); exact keep10 (by omega) (by omega) (by omega) (by assumption)
        clear hK K
        try simp only [Act.put, List.setIfInBounds_toArray, List.set_cons_zero, List.set_cons_succ]
        refine wpAnyH_done (by kernel_rfl) ?_ _
        refine NoPanic.normal ?_
        have hF := (by assumption : Below w.heap.size w _ ∧ _ ∧ _ ∧ _ ∧ _ ∧ _ ∧ _ ∧ _ ∧ _ ∧ _ ∧ _ ∧ _ ∧ _ ∧ _).1
        have hfin := fin10 (A := w.heap.size + 1) (B := w.heap.size + 1 + 1) (by omega) hU2.out.2.2.2.2.2.2.1 hU2.out.2.2.2.2.2.2.2.1 hU2.out.2.2.2.2.2.2.2.2.1 hU2.out.2.2.2.2.2.2.2.2.2.1 hU2.out.2.2.2.2.2.2.2.2.2.2.1 hU2.out.2.2.2.2.2.2.2.2.2.2.2.1 (.int .i64 (s.pos + d.1)) (.int .i64 (min (s.charge - d.2 + g.pump) g.cap)) (.bool s.bolted) (.int .i64 r) (.int .i64 d.1) (.int .i64 d.2)
        clear hHeld
        try clear hHeld
        generalize World.setCell (World.setCell _ _ _) _ _ = F at *
        obtain ⟨f0, f1, f2, f3, f4, f5⟩ := hfin
        go_wp2_with fail
        refine bodyPost_ret (v := .tuple #[.agg #[.int .i64 (s.pos + d.1), .int .i64 (min (s.charge - d.2 + g.pump) g.cap), .bool s.bolted], .agg #[.int .i64 r, .int .i64 d.1, .int .i64 d.2]]) (by simp [results, Tryz.results28, go_sem, f0, f1, f2, f3, f4, f5]) rfl ⟨by rw [HE.out]; simp [hpw, hr], hF⟩
end Go.Proofs.YtdoklolinbmhpaaGreat
