/- Gate, part VT: what the order to open does. -/
import Derived.Test.YtdoklolinbmhpaaGreatVS
set_option linter.all false
namespace Go.Proofs.YtdoklolinbmhpaaGreat
open Go.RowKit

/-- A box of two noughts. -/
structure Box0 (W : World) (X : Nat) : Prop where
  c0 : W.cell? ⟨X, 0, none⟩ = some (.int .i64 0)
  c1 : W.cell? ⟨X, 1, none⟩ = some (.int .i64 0)
  f0 : W.frozen? ⟨X, 0, none⟩ = false
  f1 : W.frozen? ⟨X, 1, none⟩ = false
  lt : X < W.heap.size
theorem Box0.later {W w1 : World} {X : Nat} (h : Box0 W X) (hb : Below W.heap.size W w1) : Box0 w1 X :=
  ⟨(hb.cell (p := ⟨X, 0, none⟩) h.lt).trans h.c0, (hb.cell (p := ⟨X, 1, none⟩) h.lt).trans h.c1, (hb.frozen (p := ⟨X, 0, none⟩) h.lt).trans h.f0, (hb.frozen (p := ⟨X, 1, none⟩) h.lt).trans h.f1, Nat.lt_of_lt_of_le h.lt hb.size⟩
theorem Box0.new (W : World) (T : TypeId) : Box0 (W.alloc (.cells #[.int .i64 0, .int .i64 0] T)) W.heap.size :=
  ⟨by simp [go_sem], by simp [go_sem], by simp [go_sem], by simp [go_sem], by simp⟩
/-- A box of two numbers. -/
structure BoxV (V : World) (X : Nat) (a b : Int) : Prop where
  c0 : V.cell? ⟨X, 0, none⟩ = some (.int .i64 a)
  c1 : V.cell? ⟨X, 1, none⟩ = some (.int .i64 b)
  lt : X < V.heap.size
theorem BoxV.later {W w1 : World} {X : Nat} {a b : Int} (h : BoxV W X a b) (hb : Below W.heap.size W w1) : BoxV w1 X a b :=
  ⟨(hb.cell (p := ⟨X, 0, none⟩) h.lt).trans h.c0, (hb.cell (p := ⟨X, 1, none⟩) h.lt).trans h.c1, Nat.lt_of_lt_of_le h.lt hb.size⟩
theorem BoxV.new (W : World) (T : TypeId) (a b : Int) : BoxV (W.alloc (.cells #[.int .i64 a, .int .i64 b] T)) W.heap.size a b :=
  ⟨by simp [go_sem], by simp [go_sem], by simp⟩
theorem Box0.sets {W : World} {X : Nat} (h : Box0 W X) (a b : Int) : BoxV ((W.setCell ⟨X, 0, none⟩ (.int .i64 a)).setCell ⟨X, 1, none⟩ (.int .i64 b)) X a b :=
  ⟨(World.cell?_setCell_other _ _ _ _ (by simp)).trans (World.cell?_setCell_same' _ _ _ (by rw [h.c0]; rfl)),
    World.cell?_setCell_same' _ _ _ (by rw [World.cell?_setCell_other _ _ _ _ (by simp), h.c1]; rfl), by simpa using h.lt⟩
theorem keepRX {g : Gt} {p : GtP} {s : St} {t : Sp} {w x : World} {X : Nat} {a b : Value} (hX : w.heap.size + 1 < X) (h : Below w.heap.size w x ∧ w.heap.size + 1 < x.heap.size ∧ x.rangeAt w.heap.size 0 (mL g p s t) ∧ x.cell? ⟨w.heap.size, 2, none⟩ = some (.int .i64 g.travel) ∧ x.cell? ⟨w.heap.size, 21, none⟩ = some (.int .i64 s.pos) ∧ (∃ u, x.cell? ⟨w.heap.size + 1, 0, none⟩ = some u) ∧ (∃ u, x.cell? ⟨w.heap.size + 1, 1, none⟩ = some u) ∧ ∀ o, x.frozen? ⟨w.heap.size + 1, o, none⟩ = false) : Below w.heap.size w ((x.setCell ⟨X, 0, none⟩ a).setCell ⟨X, 1, none⟩ b) ∧ w.heap.size + 1 < ((x.setCell ⟨X, 0, none⟩ a).setCell ⟨X, 1, none⟩ b).heap.size ∧ ((x.setCell ⟨X, 0, none⟩ a).setCell ⟨X, 1, none⟩ b).rangeAt w.heap.size 0 (mL g p s t) ∧ ((x.setCell ⟨X, 0, none⟩ a).setCell ⟨X, 1, none⟩ b).cell? ⟨w.heap.size, 2, none⟩ = some (.int .i64 g.travel) ∧ ((x.setCell ⟨X, 0, none⟩ a).setCell ⟨X, 1, none⟩ b).cell? ⟨w.heap.size, 21, none⟩ = some (.int .i64 s.pos) ∧ (∃ u, ((x.setCell ⟨X, 0, none⟩ a).setCell ⟨X, 1, none⟩ b).cell? ⟨w.heap.size + 1, 0, none⟩ = some u) ∧ (∃ u, ((x.setCell ⟨X, 0, none⟩ a).setCell ⟨X, 1, none⟩ b).cell? ⟨w.heap.size + 1, 1, none⟩ = some u) ∧ ∀ o, ((x.setCell ⟨X, 0, none⟩ a).setCell ⟨X, 1, none⟩ b).frozen? ⟨w.heap.size + 1, o, none⟩ = false := by
  obtain ⟨h0, h1, hR, h2, h21, ⟨u0, e0⟩, ⟨u1, e1⟩, z⟩ := h
  have oth : ∀ c j, c < X → ((x.setCell ⟨X, 0, none⟩ a).setCell ⟨X, 1, none⟩ b).cell? ⟨c, j, none⟩ = x.cell? ⟨c, j, none⟩ := fun c j hc => (World.cell?_setCell_other _ _ _ _ (by intro e; injection e with e1 e2; omega)).trans (World.cell?_setCell_other _ _ _ _ (by intro e; injection e with e1 e2; omega))
  refine ⟨(h0.setCell (by show w.heap.size ≤ X; omega) _).setCell (by show w.heap.size ≤ X; omega) _, by simpa using h1, fun j v hv => (oth _ _ (by omega)).trans (hR j v hv), (oth _ _ (by omega)).trans h2, (oth _ _ (by omega)).trans h21, ⟨u0, (oth _ _ (by omega)).trans e0⟩, ⟨u1, (oth _ _ (by omega)).trans e1⟩, fun o => by simpa using z o⟩

set_option maxRecDepth 100000 in
set_option maxHeartbeats 4000000 in
theorem opens_any (g : Gt) (p : GtP) (s : St) (t : Sp) (w : World) (hg : GtGood g) (hs : StGood g s) (ht : SpGood t) (hat : IntsAt w p.oa g.own) :
    Calls Tryz.prog 101 #[.agg (mL g p s t).toArray] w fun e w' => e = .returned (.agg #[.int .i64 (opensF g s t).1, .int .i64 (opensF g s t).2]) ∧ Below w.heap.size w w' := by
  have HE := hid (show opensF g s t = (-(followF g s t (-closeF g s.pos t.outer t.inner) s.pos).1, (followF g s t (-closeF g s.pos t.outer t.inner) s.pos).2) from rfl)
  have b1 := close_bd hg hs.pos ht.outer ht.inner
  have b4 := hs.pos
  have b5 := hg.travel
  have HC := hid (fun W (hW : Below w.heap.size w W) => closing_any g p s t W hg hs.pos ht.outer ht.inner (hat.later hW (Nat.le_refl _)))
  have HF := hid (fun W => follow_any g p s t (-closeF g s.pos t.outer t.inner) s.pos W hg hs ht (by omega) (by omega))
  have fb := (follow_bd hg hs t (-closeF g s.pos t.outer t.inner) (left := s.pos) (by omega)).1
  generalize closeF g s.pos t.outer t.inner = cf at *
  have w3 : IntKind.i64.wrap (-cf) = -cf := IntWalk.i64_in _ (by omega)
  generalize followF g s t (-cf) s.pos = d at *
  have w4 : IntKind.i64.wrap (-d.1) = -d.1 := IntWalk.i64_in _ (by omega)
  have HR := hid (show opensF g s t = (-d.1, d.2) from HE.out)
  generalize opensF g s t = fo at *
  clear b1 b4 b5 HE fb
  go_enter Tryz.func101, Tryz.ntmps101
  have R := range_alloc w (mL g p s t) 74
  have bA : Below w.heap.size w (w.alloc (.cells (mL g p s t).toArray 74)) := (Below.refl _ _).alloc (Nat.le_refl _) _
  have S0 : w.heap.size < (w.alloc (.cells (mL g p s t).toArray 74)).heap.size := by simp
  have bB : Below (w.alloc (.cells (mL g p s t).toArray 74)).heap.size (w.alloc (.cells (mL g p s t).toArray 74)) ((w.alloc (.cells (mL g p s t).toArray 74)).alloc (.cells #[.int .i64 0, .int .i64 0] 107)) := (Below.refl _ _).alloc (Nat.le_refl _) _
  replace R := range_later R bB S0
  have S1 : w.heap.size < ((w.alloc (.cells (mL g p s t).toArray 74)).alloc (.cells #[.int .i64 0, .int .i64 0] 107)).heap.size := by simp <;> omega
  have S2 : w.heap.size + 1 < ((w.alloc (.cells (mL g p s t).toArray 74)).alloc (.cells #[.int .i64 0, .int .i64 0] 107)).heap.size := by simp <;> omega
  have d0 : ((w.alloc (.cells (mL g p s t).toArray 74)).alloc (.cells #[.int .i64 0, .int .i64 0] 107)).cell? ⟨w.heap.size + 1, 0, none⟩ = some (.int .i64 0) := by
    have := range_alloc (w.alloc (.cells (mL g p s t).toArray 74)) [.int .i64 0, .int .i64 0] 107
    rw [World.size_alloc] at this
    exact range_cell this rfl
  have d1 : ((w.alloc (.cells (mL g p s t).toArray 74)).alloc (.cells #[.int .i64 0, .int .i64 0] 107)).cell? ⟨w.heap.size + 1, 1, none⟩ = some (.int .i64 0) := by
    have := range_alloc (w.alloc (.cells (mL g p s t).toArray 74)) [.int .i64 0, .int .i64 0] 107
    rw [World.size_alloc] at this
    exact range_cell this rfl
  have z0 : ∀ o, ((w.alloc (.cells (mL g p s t).toArray 74)).alloc (.cells #[.int .i64 0, .int .i64 0] 107)).frozen? ⟨w.heap.size + 1, o, none⟩ = false := by intro o; simp [go_sem]
  have bAB : Below w.heap.size w ((w.alloc (.cells (mL g p s t).toArray 74)).alloc (.cells #[.int .i64 0, .int .i64 0] 107)) := bA.trans (bB.mono (Nat.le_of_lt S0))
  have D0 := hid d0; have D1 := hid d1; have Z0 := hid z0; have LR := hid R
  clear hg hs ht hat bA bB S0 d0 d1 z0 R
  go_wp2_with fail
  generalize World.alloc (World.alloc w _) _ = W1 at *
  have R := LR.out; have d0 := D0.out; have d1 := D1.out; have z0 := Z0.out
  have c2 : W1.cell? ⟨w.heap.size, 2, none⟩ = some (.int .i64 g.travel) := range_cell R rfl
  have c21 : W1.cell? ⟨w.heap.size, 21, none⟩ = some (.int .i64 s.pos) := range_cell R rfl
  refine wp_region_noPanic ?_
  refine wp_region_held_drew (S := (fun w' => Below w.heap.size w w' ∧ w.heap.size + 1 < w'.heap.size ∧ w'.rangeAt w.heap.size 0 (mL g p s t) ∧ w'.cell? ⟨w.heap.size, 2, none⟩ = some (.int .i64 g.travel) ∧ w'.cell? ⟨w.heap.size, 21, none⟩ = some (.int .i64 s.pos) ∧ (∃ u, w'.cell? ⟨w.heap.size + 1, 0, none⟩ = some u) ∧ (∃ u, w'.cell? ⟨w.heap.size + 1, 1, none⟩ = some u) ∧ ∀ o, w'.frozen? ⟨w.heap.size + 1, o, none⟩ = false)) (by kernel_rfl) ?_ (fun hHeld => ?_)
  · exact ⟨bAB.drew, by simpa using S2, range_drew R, by simpa using c2, by simpa using c21, ⟨_, by simpa using d0⟩, ⟨_, by simpa using d1⟩, by simpa using z0⟩
  refine wpAnyH_take (i := 0) (oi := { dst := _, op := _, type := _, pos := _, after := _, guard := _ }) (v := .agg (mL g p s t).toArray) rfl (by kernel_rfl) (by kernel_rfl) (by kernel_rfl) (fun _ _ _ h => h) (yieldsIf_load_mid (by rfl) 74 _ rfl w.heap.size 0 rfl (mL g p s t) _ (fun _ hS => hS.2.2.1) Tryz.underlying74 rfl (by kernel_rfl)) (by assumption) ?_
  try simp only [Act.put, List.setIfInBounds_toArray, List.set_cons_zero, List.set_cons_succ]
  refine wpAnyH_take (i := 1) (oi := { dst := _, op := _, type := _, pos := _, after := _, guard := _ }) (v := .agg (mL g p s t).toArray) rfl (by kernel_rfl) (by kernel_rfl) (by kernel_rfl) (fun _ _ _ h => h) (yieldsIf_load_mid (by rfl) 74 _ rfl w.heap.size 0 rfl (mL g p s t) _ (fun _ hS => hS.2.2.1) Tryz.underlying74 rfl (by kernel_rfl)) (by assumption) ?_
  try simp only [Act.put, List.setIfInBounds_toArray, List.set_cons_zero, List.set_cons_succ]
  refine wpAnyH_take (i := 4) (oi := { dst := _, op := _, type := _, pos := _, after := _, guard := _ }) (v := ?_) rfl (by kernel_rfl) (by kernel_rfl) (by kernel_rfl) (fun _ _ _ h => h) (Or.inl ⟨by rfl, ?_⟩) (by assumption) ?_
  rotate_left
  · intro wS hSw; (try dsimp only at hSw); go_simp; try (with_reducible rfl)
  try simp only [Act.put, List.setIfInBounds_toArray, List.set_cons_zero, List.set_cons_succ]
  refine wpAnyH_take (i := 5) (oi := { dst := _, op := _, type := _, pos := _, after := _, guard := _ }) (v := ?_) rfl (by kernel_rfl) (by kernel_rfl) (by kernel_rfl) (fun _ _ _ h => h) (Or.inl ⟨by rfl, ?_⟩) (by assumption) ?_
  rotate_left
  · intro wS hSw; (try dsimp only at hSw); go_simp; try (with_reducible rfl)
  try simp only [Act.put, List.setIfInBounds_toArray, List.set_cons_zero, List.set_cons_succ]
  refine wpAnyH_take (i := 6) (oi := { dst := _, op := _, type := _, pos := _, after := _, guard := _ }) (v := ?_) rfl (by kernel_rfl) (by kernel_rfl) (by kernel_rfl) (fun _ _ _ h => h) (Or.inl ⟨by rfl, ?_⟩) (by assumption) ?_
  rotate_left
  · intro wS hSw; (try dsimp only at hSw); go_simp; try (with_reducible rfl)
  try simp only [Act.put, List.setIfInBounds_toArray, List.set_cons_zero, List.set_cons_succ]
  refine wpAnyH_ready (rs := [2, 8]) (by kernel_rfl) (by simp) ?_
  refine AllReadyH.cons (o := { dst := _, op := _, type := _, pos := _, after := _, guard := _ }) rfl (fun K hK => ?_) ?_
  · go_simp
    (go_at_call 77; have hSc := (by assumption : Below w.heap.size w _ ∧ _ ∧ World.rangeAt _ w.heap.size 0 (mL g p s t) ∧ _ ∧ _ ∧ _ ∧ _ ∧ _); (with_reducible refine (HC.out _ hSc.1).mono ?_); clear hSc; rintro e w' ⟨rfl, hbe⟩)
    try go_wp2_with fail
    refine hK.out _ _ ?_ (fun hHeld => ?_)
    · (try dsimp only); first | assumption | exact keepR (by assumption) (by assumption) | exact keepR ((Below.refl _ _).alloc (Nat.le_refl _) _) (by assumption) | exact keepRX hX (by assumption)
    clear hK K
    try simp only [Act.put, List.setIfInBounds_toArray, List.set_cons_zero, List.set_cons_succ]
    refine wpAnyH_take (i := 3) (oi := { dst := _, op := _, type := _, pos := _, after := _, guard := _ }) (v := ?_) rfl (by kernel_rfl) (by kernel_rfl) (by kernel_rfl) (fun _ _ _ h => h) (Or.inl ⟨by rfl, ?_⟩) (by assumption) ?_
    rotate_left
    · intro wS hSw; (try dsimp only at hSw); go_simp; try (with_reducible rfl)
    try simp only [Act.put, List.setIfInBounds_toArray, List.set_cons_zero, List.set_cons_succ]
    refine wpAnyH_ready (rs := [7, 8]) (by kernel_rfl) (by simp) ?_
    refine AllReadyH.cons (o := { dst := _, op := _, type := _, pos := _, after := _, guard := _ }) rfl (fun K hK => ?_) ?_
    · go_simp
      (go_at_call 124; (with_reducible refine (HF.out _).mono ?_); rintro e w' ⟨rfl, hbe⟩)
      try go_wp2_with fail
      refine hK.out _ _ ?_ (fun hHeld => ?_)
      · (try dsimp only); first | assumption | exact keepR (by assumption) (by assumption) | exact keepR ((Below.refl _ _).alloc (Nat.le_refl _) _) (by assumption) | exact keepRX hX (by assumption)
      clear hK K
      try simp only [Act.put, List.setIfInBounds_toArray, List.set_cons_zero, List.set_cons_succ]
      refine wpAnyH_ready (rs := [8]) (by kernel_rfl) (by simp) ?_
      refine AllReadyH.cons (o := { dst := _, op := _, type := _, pos := _, after := _, guard := _ }) rfl (fun K hK => ?_) AllReadyH.nil
      have hX := (by assumption : Below w.heap.size w _ ∧ _ ∧ World.rangeAt _ w.heap.size 0 (mL g p s t) ∧ _ ∧ _ ∧ _ ∧ _ ∧ _).2.1
      go_simp
      refine hK.out _ _ ?_ (fun hHeld => ?_)
      · (try dsimp only); first | assumption | exact keepR (by assumption) (by assumption) | exact keepR ((Below.refl _ _).alloc (Nat.le_refl _) _) (by assumption) | exact keepRX hX (by assumption)
      clear hK K
      try simp only [Act.put, List.setIfInBounds_toArray, List.set_cons_zero, List.set_cons_succ]
      have BX := Box0.new w' 107
      obtain ⟨x0, x1, y0, y1, xl⟩ := BX
      refine wpAnyH_ready (rs := [9]) (by kernel_rfl) (by simp) ?_
      refine AllReadyH.cons (o := { dst := _, op := _, type := _, pos := _, after := _, guard := _ }) rfl (fun K hK => ?_) AllReadyH.nil
      go_simp
      refine hK.out _ _ ?_ (fun hHeld => ?_)
      · (try dsimp only); first | assumption | exact keepR (by assumption) (by assumption) | exact keepR ((Below.refl _ _).alloc (Nat.le_refl _) _) (by assumption) | exact keepRX hX (by assumption)
      clear hK K
      try simp only [Act.put, List.setIfInBounds_toArray, List.set_cons_zero, List.set_cons_succ]
      have BV := BoxV.new w' 107 d.1 d.2
      clear x0 x1 y0 y1
      refine wpAnyH_done (by kernel_rfl) ?_ _
      refine NoPanic.normal ?_
      obtain ⟨hwV, sV1, -, -, -, ⟨u0, e0⟩, ⟨u1, e1⟩, z1⟩ := (by assumption : Below w.heap.size w _ ∧ _ ∧ World.rangeAt _ w.heap.size 0 (mL g p s t) ∧ _ ∧ _ ∧ _ ∧ _ ∧ _)
      obtain ⟨v0, v1, -⟩ := BV
      generalize World.alloc w' (.cells #[.int .i64 d.1, .int .i64 d.2] 107) = Z at *
      clear hHeld R c2 c21 d0 d1 z0
      go_wp2_with fail
      refine bodyPost_ret (v := .agg #[.int .i64 (-d.1), .int .i64 d.2]) (by simp [results, Tryz.results101, go_sem, *]) rfl ⟨ret_mo HR.out, ?_⟩
      exact (hwV.setCell (by simp) _).setCell (by simp) _
    · refine AllReadyH.cons (o := { dst := _, op := _, type := _, pos := _, after := _, guard := _ }) rfl (fun K hK => ?_) AllReadyH.nil
      have hX := (by assumption : Below w.heap.size w _ ∧ _ ∧ World.rangeAt _ w.heap.size 0 (mL g p s t) ∧ _ ∧ _ ∧ _ ∧ _ ∧ _).2.1
      go_simp
      refine hK.out _ _ ?_ (fun hHeld => ?_)
      · (try dsimp only); first | assumption | exact keepR (by assumption) (by assumption) | exact keepR ((Below.refl _ _).alloc (Nat.le_refl _) _) (by assumption) | exact keepRX hX (by assumption)
      clear hK K
      try simp only [Act.put, List.setIfInBounds_toArray, List.set_cons_zero, List.set_cons_succ]
      have BX := Box0.new w' 107
      refine wpAnyH_ready (rs := [7]) (by kernel_rfl) (by simp) ?_
      refine AllReadyH.cons (o := { dst := _, op := _, type := _, pos := _, after := _, guard := _ }) rfl (fun K hK => ?_) AllReadyH.nil
      go_simp
      (go_at_call 124; (with_reducible refine (HF.out _).mono ?_); rintro e w' ⟨rfl, hbe⟩)
      try go_wp2_with fail
      refine hK.out _ _ ?_ (fun hHeld => ?_)
      · (try dsimp only); first | assumption | exact keepR (by assumption) (by assumption) | exact keepR ((Below.refl _ _).alloc (Nat.le_refl _) _) (by assumption) | exact keepRX hX (by assumption)
      clear hK K
      try simp only [Act.put, List.setIfInBounds_toArray, List.set_cons_zero, List.set_cons_succ]
      replace BX := BX.later hbe
      obtain ⟨x0, x1, y0, y1, xl⟩ := BX
      refine wpAnyH_ready (rs := [9]) (by kernel_rfl) (by simp) ?_
      refine AllReadyH.cons (o := { dst := _, op := _, type := _, pos := _, after := _, guard := _ }) rfl (fun K hK => ?_) AllReadyH.nil
      go_simp
      refine hK.out _ _ ?_ (fun hHeld => ?_)
      · (try dsimp only); first | assumption | exact keepR (by assumption) (by assumption) | exact keepR ((Below.refl _ _).alloc (Nat.le_refl _) _) (by assumption) | exact keepRX hX (by assumption)
      clear hK K
      try simp only [Act.put, List.setIfInBounds_toArray, List.set_cons_zero, List.set_cons_succ]
      have BV := Box0.sets ⟨x0, x1, y0, y1, xl⟩ d.1 d.2
      clear x0 x1 y0 y1
      refine wpAnyH_done (by kernel_rfl) ?_ _
      refine NoPanic.normal ?_
      obtain ⟨hwV, sV1, -, -, -, ⟨u0, e0⟩, ⟨u1, e1⟩, z1⟩ := (by assumption : Below w.heap.size w _ ∧ _ ∧ World.rangeAt _ w.heap.size 0 (mL g p s t) ∧ _ ∧ _ ∧ _ ∧ _ ∧ _)
      obtain ⟨v0, v1, -⟩ := BV
      generalize World.setCell (World.setCell _ _ _) _ _ = Z at *
      clear hHeld R c2 c21 d0 d1 z0
      go_wp2_with fail
      refine bodyPost_ret (v := .agg #[.int .i64 (-d.1), .int .i64 d.2]) (by simp [results, Tryz.results101, go_sem, *]) rfl ⟨ret_mo HR.out, ?_⟩
      exact (hwV.setCell (by simp) _).setCell (by simp) _
  · refine AllReadyH.cons (o := { dst := _, op := _, type := _, pos := _, after := _, guard := _ }) rfl (fun K hK => ?_) AllReadyH.nil
    go_simp
    refine hK.out _ _ ?_ (fun hHeld => ?_)
    · (try dsimp only); first | assumption | exact keepR (by assumption) (by assumption) | exact keepR ((Below.refl _ _).alloc (Nat.le_refl _) _) (by assumption) | exact keepRX hX (by assumption)
    clear hK K
    try simp only [Act.put, List.setIfInBounds_toArray, List.set_cons_zero, List.set_cons_succ]
    have hdz : W1.drew.heap.size = W1.heap.size := by simp
    have BX := Box0.new W1.drew 107
    rw [hdz] at BX
    clear hdz
    have hX := S2
    refine wpAnyH_ready (rs := [2]) (by kernel_rfl) (by simp) ?_
    refine AllReadyH.cons (o := { dst := _, op := _, type := _, pos := _, after := _, guard := _ }) rfl (fun K hK => ?_) AllReadyH.nil
    go_simp
    (go_at_call 77; have hSc := (by assumption : Below w.heap.size w _ ∧ _ ∧ World.rangeAt _ w.heap.size 0 (mL g p s t) ∧ _ ∧ _ ∧ _ ∧ _ ∧ _); (with_reducible refine (HC.out _ hSc.1).mono ?_); clear hSc; rintro e w' ⟨rfl, hbe⟩)
    try go_wp2_with fail
    refine hK.out _ _ ?_ (fun hHeld => ?_)
    · (try dsimp only); first | assumption | exact keepR (by assumption) (by assumption) | exact keepR ((Below.refl _ _).alloc (Nat.le_refl _) _) (by assumption) | exact keepRX hX (by assumption)
    clear hK K
    try simp only [Act.put, List.setIfInBounds_toArray, List.set_cons_zero, List.set_cons_succ]
    replace BX := BX.later hbe
    refine wpAnyH_take (i := 3) (oi := { dst := _, op := _, type := _, pos := _, after := _, guard := _ }) (v := ?_) rfl (by kernel_rfl) (by kernel_rfl) (by kernel_rfl) (fun _ _ _ h => h) (Or.inl ⟨by rfl, ?_⟩) (by assumption) ?_
    rotate_left
    · intro wS hSw; (try dsimp only at hSw); go_simp; try (with_reducible rfl)
    try simp only [Act.put, List.setIfInBounds_toArray, List.set_cons_zero, List.set_cons_succ]
    refine wpAnyH_ready (rs := [7]) (by kernel_rfl) (by simp) ?_
    refine AllReadyH.cons (o := { dst := _, op := _, type := _, pos := _, after := _, guard := _ }) rfl (fun K hK => ?_) AllReadyH.nil
    go_simp
    (go_at_call 124; (with_reducible refine (HF.out _).mono ?_); rintro e w' ⟨rfl, hbe⟩)
    try go_wp2_with fail
    refine hK.out _ _ ?_ (fun hHeld => ?_)
    · (try dsimp only); first | assumption | exact keepR (by assumption) (by assumption) | exact keepR ((Below.refl _ _).alloc (Nat.le_refl _) _) (by assumption) | exact keepRX hX (by assumption)
    clear hK K
    try simp only [Act.put, List.setIfInBounds_toArray, List.set_cons_zero, List.set_cons_succ]
    replace BX := BX.later hbe
    obtain ⟨x0, x1, y0, y1, xl⟩ := BX
    refine wpAnyH_ready (rs := [9]) (by kernel_rfl) (by simp) ?_
    refine AllReadyH.cons (o := { dst := _, op := _, type := _, pos := _, after := _, guard := _ }) rfl (fun K hK => ?_) AllReadyH.nil
    go_simp
    refine hK.out _ _ ?_ (fun hHeld => ?_)
    · (try dsimp only); first | assumption | exact keepR (by assumption) (by assumption) | exact keepR ((Below.refl _ _).alloc (Nat.le_refl _) _) (by assumption) | exact keepRX hX (by assumption)
    clear hK K
    try simp only [Act.put, List.setIfInBounds_toArray, List.set_cons_zero, List.set_cons_succ]
    have BV := Box0.sets ⟨x0, x1, y0, y1, xl⟩ d.1 d.2
    clear x0 x1 y0 y1
    refine wpAnyH_done (by kernel_rfl) ?_ _
    refine NoPanic.normal ?_
    obtain ⟨hwV, sV1, -, -, -, ⟨u0, e0⟩, ⟨u1, e1⟩, z1⟩ := (by assumption : Below w.heap.size w _ ∧ _ ∧ World.rangeAt _ w.heap.size 0 (mL g p s t) ∧ _ ∧ _ ∧ _ ∧ _ ∧ _)
    obtain ⟨v0, v1, -⟩ := BV
    generalize World.setCell (World.setCell _ _ _) _ _ = Z at *
    clear hHeld R c2 c21 d0 d1 z0
    go_wp2_with fail
    refine bodyPost_ret (v := .agg #[.int .i64 (-d.1), .int .i64 d.2]) (by simp [results, Tryz.results101, go_sem, *]) rfl ⟨ret_mo HR.out, ?_⟩
    exact (hwV.setCell (by simp) _).setCell (by simp) _
end Go.Proofs.YtdoklolinbmhpaaGreat
