/- Gate, part VQ: what the order to hold does. -/
import Derived.Test.YtdoklolinbmhpaaGreatVP
set_option linter.all false
namespace Go.Proofs.YtdoklolinbmhpaaGreat
open Go.RowKit

theorem keepH1 {g : Gt} {p : GtP} {s : St} {t : Sp} {V x y : World} {b : Nat} (hV : b < V.heap.size) (hb : Below x.heap.size x y) (h : Below V.heap.size V x ∧ x.rangeAt b 0 (mL g p s t) ∧ x.cell? ⟨b, 12, none⟩ = some (.int .i64 g.brake)) : Below V.heap.size V y ∧ y.rangeAt b 0 (mL g p s t) ∧ y.cell? ⟨b, 12, none⟩ = some (.int .i64 g.brake) := by
  have hs := h.1.size
  have hl : b < x.heap.size := by omega
  have c : ∀ j, y.cell? ⟨b, j, none⟩ = x.cell? ⟨b, j, none⟩ := fun j => hb.cell (p := ⟨b, j, none⟩) hl
  obtain ⟨h0, hR, h12⟩ := h
  exact ⟨h0.trans (hb.mono hs), range_later hR hb hl, (c _).trans h12⟩

set_option maxRecDepth 100000 in
set_option maxHeartbeats 4000000 in
theorem holds_any (g : Gt) (p : GtP) (s : St) (t : Sp) (w : World) (hg : GtGood g) (hs : StGood g s) (ht : SpGood t) (hat : IntsAt w p.oa g.own) :
    Calls Tryz.prog 102 #[.agg (mL g p s t).toArray] w fun e w' => e = .returned (.agg #[.int .i64 (holdsF g s t).1, .int .i64 (holdsF g s t).2]) ∧ Below w.heap.size w w' := by
  have HE := hid (show holdsF g s t = if g.brake + frictF g s.pos t.outer t.inner < closeF g s.pos t.outer t.inner then (min g.gravity (g.travel - s.pos), 0) else if g.brake + frictF g s.pos t.outer t.inner < -closeF g s.pos t.outer t.inner then (-min g.gravity s.pos, 0) else (0, 0) from rfl)
  have HF := hid (fun W => friction_any g p s t W hg hs.pos ht.outer ht.inner)
  have HC := hid (fun W (hW : Below w.heap.size w W) => closing_any g p s t W hg hs.pos ht.outer ht.inner (hat.later hW (Nat.le_refl _)))
  have b1 := close_bd hg hs.pos ht.outer ht.inner
  have b2 := frict_bd (pos := s.pos) hg ht.outer ht.inner
  have b3 := hg.brake
  have b4 := hs.pos
  have b5 := hg.travel
  have b6 := hg.gravity
  generalize frictF g s.pos t.outer t.inner = fr at *
  generalize closeF g s.pos t.outer t.inner = cf at *
  have w1 : IntKind.i64.wrap (g.brake + fr) = g.brake + fr := IntWalk.i64_in _ (by omega)
  have w2 : IntKind.i64.wrap (-cf) = -cf := IntWalk.i64_in _ (by omega)
  have w3 : IntKind.i64.wrap (g.travel - s.pos) = g.travel - s.pos := IntWalk.i64_in _ (by omega)
  have w4 : IntKind.i64.wrap (-min g.gravity s.pos) = -min g.gravity s.pos := IntWalk.i64_in _ (by omega)
  generalize holdsF g s t = fo at *
  clear b1 b2 b3 b4 b5 b6
  go_enter Tryz.func102, Tryz.ntmps102
  have R := range_alloc w (mL g p s t) 74
  have bA : Below w.heap.size w (w.alloc (.cells (mL g p s t).toArray 74)) := (Below.refl _ _).alloc (Nat.le_refl _) _
  have S0 : w.heap.size < (w.alloc (.cells (mL g p s t).toArray 74)).heap.size := by simp
  have bB : Below (w.alloc (.cells (mL g p s t).toArray 74)).heap.size (w.alloc (.cells (mL g p s t).toArray 74)) ((w.alloc (.cells (mL g p s t).toArray 74)).alloc (.cells #[.int .i64 0, .int .i64 0] 107)) := (Below.refl _ _).alloc (Nat.le_refl _) _
  replace R := range_later R bB S0
  have S1 : w.heap.size < ((w.alloc (.cells (mL g p s t).toArray 74)).alloc (.cells #[.int .i64 0, .int .i64 0] 107)).heap.size := by simp <;> omega
  have S2 : w.heap.size + 1 < ((w.alloc (.cells (mL g p s t).toArray 74)).alloc (.cells #[.int .i64 0, .int .i64 0] 107)).heap.size := by simp <;> omega
  have d0 : ((w.alloc (.cells (mL g p s t).toArray 74)).alloc (.cells #[.int .i64 0, .int .i64 0] 107)).cell? ⟨w.heap.size + 1, 0, none⟩ = some (.int .i64 0) := by
    have := range_alloc (w.alloc (.cells (mL g p s t).toArray 74)) [.int .i64 0, .int .i64 0] 107
    rw [World.size_alloc] at this
    exact range_cell this rfl
  have d1 : ((w.alloc (.cells (mL g p s t).toArray 74)).alloc (.cells #[.int .i64 0, .int .i64 0] 107)).cell? ⟨w.heap.size + 1, 1, none⟩ = some (.int .i64 0) := by
    have := range_alloc (w.alloc (.cells (mL g p s t).toArray 74)) [.int .i64 0, .int .i64 0] 107
    rw [World.size_alloc] at this
    exact range_cell this rfl
  have z0 : ∀ o, ((w.alloc (.cells (mL g p s t).toArray 74)).alloc (.cells #[.int .i64 0, .int .i64 0] 107)).frozen? ⟨w.heap.size + 1, o, none⟩ = false := by intro o; simp [go_sem]
  have bAB : Below w.heap.size w ((w.alloc (.cells (mL g p s t).toArray 74)).alloc (.cells #[.int .i64 0, .int .i64 0] 107)) := bA.trans (bB.mono (Nat.le_of_lt S0))
  have D0 := hid d0; have D1 := hid d1; have Z0 := hid z0; have LR := hid R
  clear hg hs ht hat bA bB S0 d0 d1 z0 R
  go_wp2_with fail
  generalize World.alloc (World.alloc w _) _ = W1 at *
  have R := LR.out
  have c12 : W1.cell? ⟨w.heap.size, 12, none⟩ = some (.int .i64 g.brake) := range_cell R rfl
  refine wp_region_noPanic ?_
  refine wp_region_held_drew (S := (fun w' => Below W1.heap.size W1 w' ∧ w'.rangeAt w.heap.size 0 (mL g p s t) ∧ w'.cell? ⟨w.heap.size, 12, none⟩ = some (.int .i64 g.brake))) (by kernel_rfl) ?_ (fun hHeld => ?_)
  · exact ⟨(Below.refl _ _).drew, range_drew R, by simpa using c12⟩
  refine wpAnyH_take (i := 0) (oi := { dst := _, op := _, type := _, pos := _, after := _, guard := _ }) (v := .agg (mL g p s t).toArray) rfl (by kernel_rfl) (by kernel_rfl) (by kernel_rfl) (fun _ _ _ h => h) (yieldsIf_load_mid (by rfl) 74 _ rfl w.heap.size 0 rfl (mL g p s t) _ (fun _ hS => hS.2.1) Tryz.underlying74 rfl (by kernel_rfl)) (by assumption) ?_
  try simp only [Act.put, List.setIfInBounds_toArray, List.set_cons_zero, List.set_cons_succ]
  refine wpAnyH_take (i := 2) (oi := { dst := _, op := _, type := _, pos := _, after := _, guard := _ }) (v := ?_) rfl (by kernel_rfl) (by kernel_rfl) (by kernel_rfl) (fun _ _ _ h => h) (Or.inl ⟨by rfl, ?_⟩) (by assumption) ?_
  rotate_left
  · intro wS hSw; (try dsimp only at hSw); go_simp; try (with_reducible rfl)
  try simp only [Act.put, List.setIfInBounds_toArray, List.set_cons_zero, List.set_cons_succ]
  refine wpAnyH_take (i := 3) (oi := { dst := _, op := _, type := _, pos := _, after := _, guard := _ }) (v := ?_) rfl (by kernel_rfl) (by kernel_rfl) (by kernel_rfl) (fun _ _ _ h => h) (Or.inl ⟨by rfl, ?_⟩) (by assumption) ?_
  rotate_left
  · intro wS hSw; (try dsimp only at hSw); go_simp; try (with_reducible rfl)
  try simp only [Act.put, List.setIfInBounds_toArray, List.set_cons_zero, List.set_cons_succ]
  refine wpAnyH_take (i := 4) (oi := { dst := _, op := _, type := _, pos := _, after := _, guard := _ }) (v := ?_) rfl (by kernel_rfl) (by kernel_rfl) (by kernel_rfl) (fun _ _ _ h => h) (Or.inl ⟨by rfl, ?_⟩) (by assumption) ?_
  rotate_left
  · intro wS hSw; (try dsimp only at hSw); go_simp; try (with_reducible rfl)
  try simp only [Act.put, List.setIfInBounds_toArray, List.set_cons_zero, List.set_cons_succ]
  refine wpAnyH_take (i := 5) (oi := { dst := _, op := _, type := _, pos := _, after := _, guard := _ }) (v := .agg (mL g p s t).toArray) rfl (by kernel_rfl) (by kernel_rfl) (by kernel_rfl) (fun _ _ _ h => h) (yieldsIf_load_mid (by rfl) 74 _ rfl w.heap.size 0 rfl (mL g p s t) _ (fun _ hS => hS.2.1) Tryz.underlying74 rfl (by kernel_rfl)) (by assumption) ?_
  try simp only [Act.put, List.setIfInBounds_toArray, List.set_cons_zero, List.set_cons_succ]
  refine wpAnyH_ready (rs := [1]) (by kernel_rfl) (by simp) ?_
  refine AllReadyH.cons (o := { dst := _, op := _, type := _, pos := _, after := _, guard := _ }) rfl (fun K hK => ?_) AllReadyH.nil
  go_simp
  (go_at_call 77; have hSc := (by assumption : Below W1.heap.size W1 _ ∧ World.rangeAt _ w.heap.size 0 (mL g p s t) ∧ _); (with_reducible refine (HC.out _ (bAB.trans (hSc.1.mono bAB.size))).mono ?_); clear hSc; rintro e w' ⟨rfl, hbe⟩)
  try go_wp2_with fail
  refine hK.out _ _ ?_ (fun hHeld => ?_)
  · (try dsimp only); first | assumption | exact keepH1 (by omega) (by assumption) (by assumption)
  clear hK K
  try simp only [Act.put, List.setIfInBounds_toArray, List.set_cons_zero, List.set_cons_succ]
  refine wpAnyH_ready (rs := [6]) (by kernel_rfl) (by simp) ?_
  refine AllReadyH.cons (o := { dst := _, op := _, type := _, pos := _, after := _, guard := _ }) rfl (fun K hK => ?_) AllReadyH.nil
  go_simp
  (go_at_call 78; (with_reducible refine (HF.out _).mono ?_); rintro e w' ⟨rfl, hbe⟩)
  try go_wp2_with fail
  refine hK.out _ _ ?_ (fun hHeld => ?_)
  · (try dsimp only); first | assumption | exact keepH1 (by omega) (by assumption) (by assumption)
  clear hK K
  try simp only [Act.put, List.setIfInBounds_toArray, List.set_cons_zero, List.set_cons_succ]
  refine wpAnyH_take (i := 7) (oi := { dst := _, op := _, type := _, pos := _, after := _, guard := _ }) (v := ?_) rfl (by kernel_rfl) (by kernel_rfl) (by kernel_rfl) (fun _ _ _ h => h) (Or.inl ⟨by rfl, ?_⟩) (by assumption) ?_
  rotate_left
  · intro wS hSw; (try dsimp only at hSw); go_simp; try (with_reducible rfl)
  try simp only [Act.put, List.setIfInBounds_toArray, List.set_cons_zero, List.set_cons_succ]
  refine wpAnyH_take (i := 8) (oi := { dst := _, op := _, type := _, pos := _, after := _, guard := _ }) (v := ?_) rfl (by kernel_rfl) (by kernel_rfl) (by kernel_rfl) (fun _ _ _ h => h) (Or.inl ⟨by rfl, ?_⟩) (by assumption) ?_
  rotate_left
  · intro wS hSw; (try dsimp only at hSw); go_simp; try (with_reducible rfl)
  try simp only [Act.put, List.setIfInBounds_toArray, List.set_cons_zero, List.set_cons_succ]
  refine wpAnyH_take (i := 9) (oi := { dst := _, op := _, type := _, pos := _, after := _, guard := _ }) (v := ?_) rfl (by kernel_rfl) (by kernel_rfl) (by kernel_rfl) (fun _ _ _ h => h) (Or.inl ⟨by rfl, ?_⟩) (by assumption) ?_
  rotate_left
  · intro wS hSw; (try dsimp only at hSw); go_simp; try (with_reducible rfl)
  try simp only [Act.put, List.setIfInBounds_toArray, List.set_cons_zero, List.set_cons_succ]
  refine wpAnyH_done (by kernel_rfl) ?_ _
  refine NoPanic.normal ?_
  have hS := (by assumption : Below W1.heap.size W1 _ ∧ World.rangeAt _ w.heap.size 0 (mL g p s t) ∧ _)
  obtain ⟨V, hV⟩ : ∃ X, X = w' := ⟨_, rfl⟩
  subst hV
  obtain ⟨hb, R3, -⟩ := hS
  have hwV : Below w.heap.size w V := bAB.trans (hb.mono bAB.size)
  have sV0 : w.heap.size < V.heap.size := Nat.lt_of_lt_of_le S1 hb.size
  have sV1 : w.heap.size + 1 < V.heap.size := Nat.lt_of_lt_of_le S2 hb.size
  have c14 := range_cell R3 (show (mL g p s t)[14]? = some (.int .i64 g.gravity) from rfl)
  have c2 := range_cell R3 (show (mL g p s t)[2]? = some (.int .i64 g.travel) from rfl)
  have c21 := range_cell R3 (show (mL g p s t)[21]? = some (.int .i64 s.pos) from rfl)
  have e0 := (hb.cell (p := ⟨w.heap.size + 1, 0, none⟩) S2).trans D0.out
  have e1 := (hb.cell (p := ⟨w.heap.size + 1, 1, none⟩) S2).trans D1.out
  have z1 : ∀ o, V.frozen? ⟨w.heap.size + 1, o, none⟩ = false := fun o => (hb.frozen (p := ⟨w.heap.size + 1, o, none⟩) S2).trans (Z0.out o)
  clear hHeld R c12 hb bAB S1 S2 D0 D1 Z0 LR hbe
  by_cases h1 : g.brake + fr < cf
  · have HR := hid (HE.out.trans (if_pos h1))
    go_wp2_with fail
    refine bodyPost_ret (v := .agg #[.int .i64 (min g.gravity (g.travel - s.pos)), .int .i64 0]) (by simp [results, Tryz.results102, go_sem, *]) rfl ⟨ret_mo HR.out, ?_⟩
    exact (hwV.setCell (by simp) _).setCell (by simp) _
  · by_cases h2 : g.brake + fr < -cf
    · have HR := hid (HE.out.trans ((if_neg h1).trans (if_pos h2)))
      go_wp2_with fail
      refine bodyPost_ret (v := .agg #[.int .i64 (-min g.gravity s.pos), .int .i64 0]) (by simp [results, Tryz.results102, go_sem, *]) rfl ⟨ret_mo HR.out, ?_⟩
      exact (hwV.setCell (by simp) _).setCell (by simp) _
    · have HR := hid (HE.out.trans ((if_neg h1).trans (if_neg h2)))
      go_wp2_with fail
      refine bodyPost_ret (v := .agg #[.int .i64 0, .int .i64 0]) (by simp [results, Tryz.results102, go_sem, *]) rfl ⟨ret_mo HR.out, ?_⟩
      exact (hwV.setCell (by simp) _).setCell (by simp) _
end Go.Proofs.YtdoklolinbmhpaaGreat
