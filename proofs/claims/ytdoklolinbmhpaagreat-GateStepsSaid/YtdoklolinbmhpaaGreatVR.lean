/- Gate, part VR: what the order to close does. -/
import Derived.Test.YtdoklolinbmhpaaGreatVQ
set_option linter.all false
namespace Go.Proofs.YtdoklolinbmhpaaGreat
open Go.RowKit

theorem keepR {g : Gt} {p : GtP} {s : St} {t : Sp} {w x y : World} (hb : Below x.heap.size x y) (h : Below w.heap.size w x ∧ w.heap.size + 1 < x.heap.size ∧ x.rangeAt w.heap.size 0 (mL g p s t) ∧ x.cell? ⟨w.heap.size, 2, none⟩ = some (.int .i64 g.travel) ∧ x.cell? ⟨w.heap.size, 21, none⟩ = some (.int .i64 s.pos) ∧ (∃ u, x.cell? ⟨w.heap.size + 1, 0, none⟩ = some u) ∧ (∃ u, x.cell? ⟨w.heap.size + 1, 1, none⟩ = some u) ∧ ∀ o, x.frozen? ⟨w.heap.size + 1, o, none⟩ = false) : Below w.heap.size w y ∧ w.heap.size + 1 < y.heap.size ∧ y.rangeAt w.heap.size 0 (mL g p s t) ∧ y.cell? ⟨w.heap.size, 2, none⟩ = some (.int .i64 g.travel) ∧ y.cell? ⟨w.heap.size, 21, none⟩ = some (.int .i64 s.pos) ∧ (∃ u, y.cell? ⟨w.heap.size + 1, 0, none⟩ = some u) ∧ (∃ u, y.cell? ⟨w.heap.size + 1, 1, none⟩ = some u) ∧ ∀ o, y.frozen? ⟨w.heap.size + 1, o, none⟩ = false := by
  obtain ⟨h0, h1, hR, h2, h21, ⟨u0, e0⟩, ⟨u1, e1⟩, z⟩ := h
  have hs := hb.size
  have hl : w.heap.size < x.heap.size := by omega
  exact ⟨h0.trans (hb.mono h0.size), Nat.lt_of_lt_of_le h1 hs, range_later hR hb hl, (hb.cell (p := ⟨w.heap.size, 2, none⟩) hl).trans h2, (hb.cell (p := ⟨w.heap.size, 21, none⟩) hl).trans h21, ⟨u0, (hb.cell (p := ⟨w.heap.size + 1, 0, none⟩) h1).trans e0⟩, ⟨u1, (hb.cell (p := ⟨w.heap.size + 1, 1, none⟩) h1).trans e1⟩, fun o => (hb.frozen (p := ⟨w.heap.size + 1, o, none⟩) h1).trans (z o)⟩
theorem keepRS {g : Gt} {p : GtP} {s : St} {t : Sp} {w x : World} {a b : Value} (h : Below w.heap.size w x ∧ w.heap.size + 1 < x.heap.size ∧ x.rangeAt w.heap.size 0 (mL g p s t) ∧ x.cell? ⟨w.heap.size, 2, none⟩ = some (.int .i64 g.travel) ∧ x.cell? ⟨w.heap.size, 21, none⟩ = some (.int .i64 s.pos) ∧ (∃ u, x.cell? ⟨w.heap.size + 1, 0, none⟩ = some u) ∧ (∃ u, x.cell? ⟨w.heap.size + 1, 1, none⟩ = some u) ∧ ∀ o, x.frozen? ⟨w.heap.size + 1, o, none⟩ = false) : Below w.heap.size w ((x.setCell ⟨w.heap.size + 1, 0, none⟩ a).setCell ⟨w.heap.size + 1, 1, none⟩ b) ∧ w.heap.size + 1 < ((x.setCell ⟨w.heap.size + 1, 0, none⟩ a).setCell ⟨w.heap.size + 1, 1, none⟩ b).heap.size ∧ ((x.setCell ⟨w.heap.size + 1, 0, none⟩ a).setCell ⟨w.heap.size + 1, 1, none⟩ b).rangeAt w.heap.size 0 (mL g p s t) ∧ ((x.setCell ⟨w.heap.size + 1, 0, none⟩ a).setCell ⟨w.heap.size + 1, 1, none⟩ b).cell? ⟨w.heap.size, 2, none⟩ = some (.int .i64 g.travel) ∧ ((x.setCell ⟨w.heap.size + 1, 0, none⟩ a).setCell ⟨w.heap.size + 1, 1, none⟩ b).cell? ⟨w.heap.size, 21, none⟩ = some (.int .i64 s.pos) ∧ (∃ u, ((x.setCell ⟨w.heap.size + 1, 0, none⟩ a).setCell ⟨w.heap.size + 1, 1, none⟩ b).cell? ⟨w.heap.size + 1, 0, none⟩ = some u) ∧ (∃ u, ((x.setCell ⟨w.heap.size + 1, 0, none⟩ a).setCell ⟨w.heap.size + 1, 1, none⟩ b).cell? ⟨w.heap.size + 1, 1, none⟩ = some u) ∧ ∀ o, ((x.setCell ⟨w.heap.size + 1, 0, none⟩ a).setCell ⟨w.heap.size + 1, 1, none⟩ b).frozen? ⟨w.heap.size + 1, o, none⟩ = false := by
  obtain ⟨h0, h1, hR, h2, h21, ⟨u0, e0⟩, ⟨u1, e1⟩, z⟩ := h
  have oth : ∀ j, ((x.setCell ⟨w.heap.size + 1, 0, none⟩ a).setCell ⟨w.heap.size + 1, 1, none⟩ b).cell? ⟨w.heap.size, j, none⟩ = x.cell? ⟨w.heap.size, j, none⟩ := fun j => (World.cell?_setCell_other _ _ _ _ (by simp)).trans (World.cell?_setCell_other _ _ _ _ (by simp))
  have k0 : (x.setCell ⟨w.heap.size + 1, 0, none⟩ a).cell? ⟨w.heap.size + 1, 0, none⟩ = some a := World.cell?_setCell_same' _ _ _ (by rw [e0]; rfl)
  have k1 : (x.setCell ⟨w.heap.size + 1, 0, none⟩ a).cell? ⟨w.heap.size + 1, 1, none⟩ = some u1 := (World.cell?_setCell_other _ _ _ _ (by simp)).trans e1
  refine ⟨(h0.setCell (by simp) _).setCell (by simp) _, by simpa using h1, fun j v hv => (oth _).trans (hR j v hv), (oth _).trans h2, (oth _).trans h21, ⟨a, (World.cell?_setCell_other _ _ _ _ (by simp)).trans k0⟩, ⟨b, World.cell?_setCell_same' _ _ _ (by rw [k1]; rfl)⟩, fun o => by simpa using z o⟩

set_option maxRecDepth 100000 in
set_option maxHeartbeats 4000000 in
theorem closes_any (g : Gt) (p : GtP) (s : St) (t : Sp) (w : World) (hg : GtGood g) (hs : StGood g s) (ht : SpGood t) (hat : IntsAt w p.oa g.own) :
    Calls Tryz.prog 100 #[.agg (mL g p s t).toArray] w fun e w' => e = .returned (.agg #[.int .i64 (closesF g s t).1, .int .i64 (closesF g s t).2]) ∧ Below w.heap.size w w' := by
  have HE := hid (show closesF g s t = followF g s t (closeF g s.pos t.outer t.inner) (g.travel - s.pos) from rfl)
  have b1 := close_bd hg hs.pos ht.outer ht.inner
  have b4 := hs.pos
  have b5 := hg.travel
  have HC := hid (fun W (hW : Below w.heap.size w W) => closing_any g p s t W hg hs.pos ht.outer ht.inner (hat.later hW (Nat.le_refl _)))
  have HF := hid (fun W => follow_any g p s t (closeF g s.pos t.outer t.inner) (g.travel - s.pos) W hg hs ht (by omega) (by omega))
  generalize closeF g s.pos t.outer t.inner = cf at *
  have w3 : IntKind.i64.wrap (g.travel - s.pos) = g.travel - s.pos := IntWalk.i64_in _ (by omega)
  generalize followF g s t cf (g.travel - s.pos) = d at *
  have HR := hid (show closesF g s t = (d.1, d.2) from HE.out)
  generalize closesF g s t = fo at *
  clear b1 b4 b5 HE
  go_enter Tryz.func100, Tryz.ntmps100
  have R := range_alloc w (mL g p s t) 74
  have bA : Below w.heap.size w (w.alloc (.cells (mL g p s t).toArray 74)) := (Below.refl _ _).alloc (Nat.le_refl _) _
  have S0 : w.heap.size < (w.alloc (.cells (mL g p s t).toArray 74)).heap.size := by simp
  have bB : Below (w.alloc (.cells (mL g p s t).toArray 74)).heap.size (w.alloc (.cells (mL g p s t).toArray 74)) ((w.alloc (.cells (mL g p s t).toArray 74)).alloc (.cells #[.int .i64 0, .int .i64 0] 107)) := (Below.refl _ _).alloc (Nat.le_refl _) _
  replace R := range_later R bB S0
  have S1 : w.heap.size < ((w.alloc (.cells (mL g p s t).toArray 74)).alloc (.cells #[.int .i64 0, .int .i64 0] 107)).heap.size := by simp <;> omega
  have S2 : w.heap.size + 1 < ((w.alloc (.cells (mL g p s t).toArray 74)).alloc (.cells #[.int .i64 0, .int .i64 0] 107)).heap.size := by simp <;> omega
  have d0 : ((w.alloc (.cells (mL g p s t).toArray 74)).alloc (.cells #[.int .i64 0, .int .i64 0] 107)).cell? ⟨w.heap.size + 1, 0, none⟩ = some (.int .i64 0) := by
    have := range_alloc (w.alloc (.cells (mL g p s t).toArray 74)) [.int .i64 0, .int .i64 0] 107
    rw [World.size_alloc] at this
    exact range_cell this rfl
  have d1 : ((w.alloc (.cells (mL g p s t).toArray 74)).alloc (.cells #[.int .i64 0, .int .i64 0] 107)).cell? ⟨w.heap.size + 1, 1, none⟩ = some (.int .i64 0) := by
    have := range_alloc (w.alloc (.cells (mL g p s t).toArray 74)) [.int .i64 0, .int .i64 0] 107
    rw [World.size_alloc] at this
    exact range_cell this rfl
  have z0 : ∀ o, ((w.alloc (.cells (mL g p s t).toArray 74)).alloc (.cells #[.int .i64 0, .int .i64 0] 107)).frozen? ⟨w.heap.size + 1, o, none⟩ = false := by intro o; simp [go_sem]
  have bAB : Below w.heap.size w ((w.alloc (.cells (mL g p s t).toArray 74)).alloc (.cells #[.int .i64 0, .int .i64 0] 107)) := bA.trans (bB.mono (Nat.le_of_lt S0))
  have D0 := hid d0; have D1 := hid d1; have Z0 := hid z0; have LR := hid R
  clear hg hs ht hat bA bB S0 d0 d1 z0 R
  go_wp2_with fail
  generalize World.alloc (World.alloc w _) _ = W1 at *
  have R := LR.out; have d0 := D0.out; have d1 := D1.out; have z0 := Z0.out
  have c2 : W1.cell? ⟨w.heap.size, 2, none⟩ = some (.int .i64 g.travel) := range_cell R rfl
  have c21 : W1.cell? ⟨w.heap.size, 21, none⟩ = some (.int .i64 s.pos) := range_cell R rfl
  refine wp_region_noPanic ?_
  refine wp_region_held_drew (S := (fun w' => Below w.heap.size w w' ∧ w.heap.size + 1 < w'.heap.size ∧ w'.rangeAt w.heap.size 0 (mL g p s t) ∧ w'.cell? ⟨w.heap.size, 2, none⟩ = some (.int .i64 g.travel) ∧ w'.cell? ⟨w.heap.size, 21, none⟩ = some (.int .i64 s.pos) ∧ (∃ u, w'.cell? ⟨w.heap.size + 1, 0, none⟩ = some u) ∧ (∃ u, w'.cell? ⟨w.heap.size + 1, 1, none⟩ = some u) ∧ ∀ o, w'.frozen? ⟨w.heap.size + 1, o, none⟩ = false)) (by kernel_rfl) ?_ (fun hHeld => ?_)
  · exact ⟨bAB.drew, by simpa using S2, range_drew R, by simpa using c2, by simpa using c21, ⟨_, by simpa using d0⟩, ⟨_, by simpa using d1⟩, by simpa using z0⟩
  refine wpAnyH_take (i := 0) (oi := { dst := _, op := _, type := _, pos := _, after := _, guard := _ }) (v := .agg (mL g p s t).toArray) rfl (by kernel_rfl) (by kernel_rfl) (by kernel_rfl) (fun _ _ _ h => h) (yieldsIf_load_mid (by rfl) 74 _ rfl w.heap.size 0 rfl (mL g p s t) _ (fun _ hS => hS.2.2.1) Tryz.underlying74 rfl (by kernel_rfl)) (by assumption) ?_
  try simp only [Act.put, List.setIfInBounds_toArray, List.set_cons_zero, List.set_cons_succ]
  refine wpAnyH_take (i := 1) (oi := { dst := _, op := _, type := _, pos := _, after := _, guard := _ }) (v := .agg (mL g p s t).toArray) rfl (by kernel_rfl) (by kernel_rfl) (by kernel_rfl) (fun _ _ _ h => h) (yieldsIf_load_mid (by rfl) 74 _ rfl w.heap.size 0 rfl (mL g p s t) _ (fun _ hS => hS.2.2.1) Tryz.underlying74 rfl (by kernel_rfl)) (by assumption) ?_
  try simp only [Act.put, List.setIfInBounds_toArray, List.set_cons_zero, List.set_cons_succ]
  refine wpAnyH_take (i := 3) (oi := { dst := _, op := _, type := _, pos := _, after := _, guard := _ }) (v := ?_) rfl (by kernel_rfl) (by kernel_rfl) (by kernel_rfl) (fun _ _ _ h => h) (Or.inl ⟨by rfl, ?_⟩) (by assumption) ?_
  rotate_left
  · intro wS hSw; (try dsimp only at hSw); go_simp; try (with_reducible rfl)
  try simp only [Act.put, List.setIfInBounds_toArray, List.set_cons_zero, List.set_cons_succ]
  refine wpAnyH_take (i := 4) (oi := { dst := _, op := _, type := _, pos := _, after := _, guard := _ }) (v := ?_) rfl (by kernel_rfl) (by kernel_rfl) (by kernel_rfl) (fun _ _ _ h => h) (Or.inl ⟨by rfl, ?_⟩) (by assumption) ?_
  rotate_left
  · intro wS hSw; (try dsimp only at hSw); go_simp; try (with_reducible rfl)
  try simp only [Act.put, List.setIfInBounds_toArray, List.set_cons_zero, List.set_cons_succ]
  refine wpAnyH_take (i := 5) (oi := { dst := _, op := _, type := _, pos := _, after := _, guard := _ }) (v := ?_) rfl (by kernel_rfl) (by kernel_rfl) (by kernel_rfl) (fun _ _ _ h => h) (Or.inl ⟨by rfl, ?_⟩) (by assumption) ?_
  rotate_left
  · intro wS hSw; (try dsimp only at hSw); go_simp; try (with_reducible rfl)
  try simp only [Act.put, List.setIfInBounds_toArray, List.set_cons_zero, List.set_cons_succ]
  refine wpAnyH_take (i := 6) (oi := { dst := _, op := _, type := _, pos := _, after := _, guard := _ }) (v := ?_) rfl (by kernel_rfl) (by kernel_rfl) (by kernel_rfl) (fun _ _ _ h => h) (Or.inl ⟨by rfl, ?_⟩) (by assumption) ?_
  rotate_left
  · intro wS hSw; (try dsimp only at hSw); go_simp; try (with_reducible rfl)
  try simp only [Act.put, List.setIfInBounds_toArray, List.set_cons_zero, List.set_cons_succ]
  refine wpAnyH_take (i := 7) (oi := { dst := _, op := _, type := _, pos := _, after := _, guard := _ }) (v := ?_) rfl (by kernel_rfl) (by kernel_rfl) (by kernel_rfl) (fun _ _ _ h => h) (Or.inl ⟨by rfl, ?_⟩) (by assumption) ?_
  rotate_left
  · intro wS hSw; (try dsimp only at hSw); go_simp; try (with_reducible rfl)
  try simp only [Act.put, List.setIfInBounds_toArray, List.set_cons_zero, List.set_cons_succ]
  refine wpAnyH_take (i := 8) (oi := { dst := _, op := _, type := _, pos := _, after := _, guard := _ }) (v := ?_) rfl (by kernel_rfl) (by kernel_rfl) (by kernel_rfl) (fun _ _ _ h => h) (Or.inl ⟨by rfl, ?_⟩) (by assumption) ?_
  rotate_left
  · intro wS hSw; (try dsimp only at hSw); go_simp; try (with_reducible rfl)
  try simp only [Act.put, List.setIfInBounds_toArray, List.set_cons_zero, List.set_cons_succ]
  refine wpAnyH_take (i := 9) (oi := { dst := _, op := _, type := _, pos := _, after := _, guard := _ }) (v := ?_) rfl (by kernel_rfl) (by kernel_rfl) (by kernel_rfl) (fun _ _ _ h => h) (Or.inl ⟨by rfl, ?_⟩) (by assumption) ?_
  rotate_left
  · intro wS hSw; (try dsimp only at hSw); go_simp; try (with_reducible rfl)
  try simp only [Act.put, List.setIfInBounds_toArray, List.set_cons_zero, List.set_cons_succ]
  refine wpAnyH_ready (rs := [2]) (by kernel_rfl) (by simp) ?_
  refine AllReadyH.cons (o := { dst := _, op := _, type := _, pos := _, after := _, guard := _ }) rfl (fun K hK => ?_) AllReadyH.nil
  go_simp
  (go_at_call 77; have hSc := (by assumption : Below w.heap.size w _ ∧ _ ∧ World.rangeAt _ w.heap.size 0 (mL g p s t) ∧ _ ∧ _ ∧ _ ∧ _ ∧ _); (with_reducible refine (HC.out _ hSc.1).mono ?_); clear hSc; rintro e w' ⟨rfl, hbe⟩)
  try go_wp2_with fail
  refine hK.out _ _ ?_ (fun hHeld => ?_)
  · (try dsimp only); first | assumption | exact keepR (by assumption) (by assumption) | exact keepRS (by assumption)
  clear hK K
  try simp only [Act.put, List.setIfInBounds_toArray, List.set_cons_zero, List.set_cons_succ]
  refine wpAnyH_ready (rs := [10]) (by kernel_rfl) (by simp) ?_
  refine AllReadyH.cons (o := { dst := _, op := _, type := _, pos := _, after := _, guard := _ }) rfl (fun K hK => ?_) AllReadyH.nil
  go_simp
  (go_at_call 124; (with_reducible refine (HF.out _).mono ?_); rintro e w' ⟨rfl, hbe⟩)
  try go_wp2_with fail
  refine hK.out _ _ ?_ (fun hHeld => ?_)
  · (try dsimp only); first | assumption | exact keepR (by assumption) (by assumption) | exact keepRS (by assumption)
  clear hK K
  try simp only [Act.put, List.setIfInBounds_toArray, List.set_cons_zero, List.set_cons_succ]
  obtain ⟨hwV, sV1, -, -, -, ⟨u0, e0⟩, ⟨u1, e1⟩, z1⟩ := (by assumption : Below w.heap.size w _ ∧ _ ∧ World.rangeAt _ w.heap.size 0 (mL g p s t) ∧ _ ∧ _ ∧ _ ∧ _ ∧ _)
  refine wpAnyH_ready (rs := [11]) (by kernel_rfl) (by simp) ?_
  refine AllReadyH.cons (o := { dst := _, op := _, type := _, pos := _, after := _, guard := _ }) rfl (fun K hK => ?_) AllReadyH.nil
  go_simp
  refine hK.out _ _ ?_ (fun hHeld => ?_)
  · (try dsimp only); first | assumption | exact keepR (by assumption) (by assumption) | exact keepRS (by assumption)
  clear hK K
  try simp only [Act.put, List.setIfInBounds_toArray, List.set_cons_zero, List.set_cons_succ]
  refine wpAnyH_done (by kernel_rfl) ?_ _
  refine NoPanic.normal ?_
  clear R c2 c21 d0 d1 z0
  go_wp2_with fail
  refine bodyPost_ret (v := .agg #[.int .i64 d.1, .int .i64 d.2]) (by simp [results, Tryz.results100, go_sem, *]) rfl ⟨ret_mo HR.out, ?_⟩
  exact (hwV.setCell (by simp) _).setCell (by simp) _
end Go.Proofs.YtdoklolinbmhpaaGreat
