/- Gate, part VL: the friction. -/
import Derived.Test.YtdoklolinbmhpaaGreatVK
set_option linter.all false
namespace Go.Proofs.YtdoklolinbmhpaaGreat
open Go.RowKit

theorem keepF3 {g : Gt} {p : GtP} {s : St} {t : Sp} {V x y : World} {b : Nat} (hV : b < V.heap.size) (hb : Below x.heap.size x y) (h : Below V.heap.size V x ∧ x.rangeAt b 0 (mL g p s t) ∧ x.cell? ⟨b, 9, none⟩ = some (.int .i64 g.slide) ∧ x.cell? ⟨b, 10, none⟩ = some (.int .i64 g.sealN)) : Below V.heap.size V y ∧ y.rangeAt b 0 (mL g p s t) ∧ y.cell? ⟨b, 9, none⟩ = some (.int .i64 g.slide) ∧ y.cell? ⟨b, 10, none⟩ = some (.int .i64 g.sealN) := by
  have hs := h.1.size
  have hl : b < x.heap.size := by omega
  have c : ∀ j, y.cell? ⟨b, j, none⟩ = x.cell? ⟨b, j, none⟩ := fun j => hb.cell (p := ⟨b, j, none⟩) hl
  obtain ⟨h0, hR, h9, h10⟩ := h
  exact ⟨h0.trans (hb.mono hs), range_later hR hb hl, (c _).trans h9, (c _).trans h10⟩

set_option maxRecDepth 100000 in
set_option maxHeartbeats 4000000 in
theorem friction_any (g : Gt) (p : GtP) (s : St) (t : Sp) (w : World) (hg : GtGood g) (hp : 0 ≤ s.pos ∧ s.pos ≤ g.travel) (ho : -20000 ≤ t.outer ∧ t.outer ≤ 20000) (hi : -20000 ≤ t.inner ∧ t.inner ≤ 20000) :
    Calls Tryz.prog 78 #[.agg (mL g p s t).toArray] w fun e w' => e = .returned (.int .i64 (frictF g s.pos t.outer t.inner)) ∧ Below w.heap.size w w' := by
  have HE := hid (show frictF g s.pos t.outer t.inner = g.sealN + upq (g.slide * (max t.outer t.inner - min t.outer t.inner) * belowF g s.pos (max t.outer t.inner)) 1000000 from rfl)
  obtain ⟨n1, n2, n3⟩ := slideN_bd (pos := s.pos) hg ho hi
  have sb := hg.sealN
  have HB := hid (fun W => below_any g p s t (max t.outer t.inner) W hg hp (by omega))
  generalize belowF g s.pos (max t.outer t.inner) = bl at *
  obtain ⟨hd, hhd⟩ : ∃ hd, max t.outer t.inner - min t.outer t.inner = hd := ⟨_, rfl⟩
  have w1 : IntKind.i64.wrap (max t.outer t.inner - min t.outer t.inner) = hd := by rw [← hhd]; exact IntWalk.i64_in _ (by omega)
  rw [hhd] at n1 n2 n3 HE
  obtain ⟨N1, hN1⟩ : ∃ N, g.slide * hd = N := ⟨_, rfl⟩
  have w2 : IntKind.i64.wrap (g.slide * hd) = N1 := by rw [← hN1]; exact IntWalk.i64_in _ (by omega)
  rw [hN1] at n1 n2 n3 HE
  obtain ⟨N2, hN2⟩ : ∃ N, N1 * bl = N := ⟨_, rfl⟩
  have w3 : IntKind.i64.wrap (N1 * bl) = N2 := by rw [← hN2]; exact IntWalk.i64_in _ (by omega)
  rw [hN2] at n2 n3 HE
  have HN := hid (show Half N2 from ⟨by omega, by omega⟩)
  have HD := hid (fun W => roundUp_any N2 1000000 W HN.out (by decide))
  generalize upq N2 1000000 = u at *
  have w4 : IntKind.i64.wrap (g.sealN + u) = g.sealN + u := IntWalk.i64_in _ (by omega)
  clear hhd hN1 hN2 hg n1 n2 n3 sb
  go_enter Tryz.func78, Tryz.ntmps78
  have R0 := hid (range_alloc w (mL g p s t) 74)
  have bA : Below w.heap.size w (w.alloc (.cells (mL g p s t).toArray 74)) := (Below.refl _ _).alloc (Nat.le_refl _) _
  have S0 : w.heap.size < (w.alloc (.cells (mL g p s t).toArray 74)).heap.size := by simp
  have R := R0.out
  have c26 := range_cell R (show (mL g p s t)[26]? = some (.int .i64 t.outer) from rfl)
  have c27 := range_cell R (show (mL g p s t)[27]? = some (.int .i64 t.inner) from rfl)
  go_wp2_with (first | (refine wpList_load_mid rfl 74 _ rfl _ 0 rfl (mL g p s t) _ R Tryz.underlying74 rfl (by kernel_rfl) ?_) | (go_at_call 109; (with_reducible refine (HB.out _).mono ?_); rintro e w' ⟨rfl, hbe⟩))
  replace R := range_later R hbe S0
  have sV : w.heap.size < w'.heap.size := Nat.lt_of_lt_of_le S0 hbe.size
  have hwV : Below w.heap.size w w' := bA.trans (hbe.mono (by omega))
  obtain ⟨V, hV⟩ : ∃ X, X = w' := ⟨_, rfl⟩
  subst hV
  clear c26 c27 R0 hbe bA S0
  have c9 : V.cell? ⟨w.heap.size, 9, none⟩ = some (.int .i64 g.slide) := range_cell R rfl
  have c10 : V.cell? ⟨w.heap.size, 10, none⟩ = some (.int .i64 g.sealN) := range_cell R rfl
  go_wp2_with fail
  refine wp_region_noPanic ?_
  refine wp_region_held_drew (S := (fun w' => Below V.heap.size V w' ∧ w'.rangeAt w.heap.size 0 (mL g p s t) ∧ w'.cell? ⟨w.heap.size, 9, none⟩ = some (.int .i64 g.slide) ∧ w'.cell? ⟨w.heap.size, 10, none⟩ = some (.int .i64 g.sealN))) (by kernel_rfl) ?_ (fun hHeld => ?_)
  · exact ⟨(Below.refl _ _).drew, range_drew R, by simpa using c9, by simpa using c10⟩
  refine wpAnyH_take (i := 0) (oi := { dst := _, op := _, type := _, pos := _, after := _, guard := _ }) (v := ?_) rfl (by kernel_rfl) (by kernel_rfl) (by kernel_rfl) (fun _ _ _ h => h) (Or.inl ⟨by rfl, ?_⟩) (by assumption) ?_
  rotate_left
  · intro wS hSw; (try dsimp only at hSw); go_simp; try (with_reducible rfl)
  try simp only [Act.put, List.setIfInBounds_toArray, List.set_cons_zero, List.set_cons_succ]
  refine wpAnyH_take (i := 1) (oi := { dst := _, op := _, type := _, pos := _, after := _, guard := _ }) (v := ?_) rfl (by kernel_rfl) (by kernel_rfl) (by kernel_rfl) (fun _ _ _ h => h) (Or.inl ⟨by rfl, ?_⟩) (by assumption) ?_
  rotate_left
  · intro wS hSw; (try dsimp only at hSw); go_simp; try (with_reducible rfl)
  try simp only [Act.put, List.setIfInBounds_toArray, List.set_cons_zero, List.set_cons_succ]
  refine wpAnyH_take (i := 2) (oi := { dst := _, op := _, type := _, pos := _, after := _, guard := _ }) (v := ?_) rfl (by kernel_rfl) (by kernel_rfl) (by kernel_rfl) (fun _ _ _ h => h) (Or.inl ⟨by rfl, ?_⟩) (by assumption) ?_
  rotate_left
  · intro wS hSw; (try dsimp only at hSw); go_simp; try (with_reducible rfl)
  try simp only [Act.put, List.setIfInBounds_toArray, List.set_cons_zero, List.set_cons_succ]
  refine wpAnyH_take (i := 3) (oi := { dst := _, op := _, type := _, pos := _, after := _, guard := _ }) (v := ?_) rfl (by kernel_rfl) (by kernel_rfl) (by kernel_rfl) (fun _ _ _ h => h) (Or.inl ⟨by rfl, ?_⟩) (by assumption) ?_
  rotate_left
  · intro wS hSw; (try dsimp only at hSw); go_simp; try (with_reducible rfl)
  try simp only [Act.put, List.setIfInBounds_toArray, List.set_cons_zero, List.set_cons_succ]
  refine wpAnyH_take (i := 4) (oi := { dst := _, op := _, type := _, pos := _, after := _, guard := _ }) (v := ?_) rfl (by kernel_rfl) (by kernel_rfl) (by kernel_rfl) (fun _ _ _ h => h) (Or.inl ⟨by rfl, ?_⟩) (by assumption) ?_
  rotate_left
  · intro wS hSw; (try dsimp only at hSw); go_simp; try (with_reducible rfl)
  try simp only [Act.put, List.setIfInBounds_toArray, List.set_cons_zero, List.set_cons_succ]
  refine wpAnyH_take (i := 5) (oi := { dst := _, op := _, type := _, pos := _, after := _, guard := _ }) (v := ?_) rfl (by kernel_rfl) (by kernel_rfl) (by kernel_rfl) (fun _ _ _ h => h) (Or.inl ⟨by rfl, ?_⟩) (by assumption) ?_
  rotate_left
  · intro wS hSw; (try dsimp only at hSw); go_simp; try (with_reducible rfl)
  try simp only [Act.put, List.setIfInBounds_toArray, List.set_cons_zero, List.set_cons_succ]
  refine wpAnyH_take (i := 6) (oi := { dst := _, op := _, type := _, pos := _, after := _, guard := _ }) (v := ?_) rfl (by kernel_rfl) (by kernel_rfl) (by kernel_rfl) (fun _ _ _ h => h) (Or.inl ⟨by rfl, ?_⟩) (by assumption) ?_
  rotate_left
  · intro wS hSw; (try dsimp only at hSw); go_simp; try (with_reducible rfl)
  try simp only [Act.put, List.setIfInBounds_toArray, List.set_cons_zero, List.set_cons_succ]
  refine wpAnyH_take (i := 7) (oi := { dst := _, op := _, type := _, pos := _, after := _, guard := _ }) (v := ?_) rfl (by kernel_rfl) (by kernel_rfl) (by kernel_rfl) (fun _ _ _ h => h) (Or.inl ⟨by rfl, ?_⟩) (by assumption) ?_
  rotate_left
  · intro wS hSw; (try dsimp only at hSw); go_simp; try (with_reducible rfl)
  try simp only [Act.put, List.setIfInBounds_toArray, List.set_cons_zero, List.set_cons_succ]
  refine wpAnyH_take (i := 8) (oi := { dst := _, op := _, type := _, pos := _, after := _, guard := _ }) (v := ?_) rfl (by kernel_rfl) (by kernel_rfl) (by kernel_rfl) (fun _ _ _ h => h) (Or.inl ⟨by rfl, ?_⟩) (by assumption) ?_
  rotate_left
  · intro wS hSw; (try dsimp only at hSw); go_simp; try (with_reducible rfl)
  try simp only [Act.put, List.setIfInBounds_toArray, List.set_cons_zero, List.set_cons_succ]
  refine wpAnyH_take (i := 9) (oi := { dst := _, op := _, type := _, pos := _, after := _, guard := _ }) (v := ?_) rfl (by kernel_rfl) (by kernel_rfl) (by kernel_rfl) (fun _ _ _ h => h) (Or.inl ⟨by rfl, ?_⟩) (by assumption) ?_
  rotate_left
  · intro wS hSw; (try dsimp only at hSw); go_simp; try (with_reducible rfl)
  try simp only [Act.put, List.setIfInBounds_toArray, List.set_cons_zero, List.set_cons_succ]
  refine wpAnyH_ready (rs := [10]) (by kernel_rfl) (by simp) ?_
  refine AllReadyH.cons (o := { dst := _, op := _, type := _, pos := _, after := _, guard := _ }) rfl (fun K hK => ?_) AllReadyH.nil
  go_simp
  (go_at_call 59; (with_reducible refine (HD.out _).mono ?_); rintro e w' ⟨rfl, rfl⟩)
  try go_wp2_with fail
  refine hK.out _ _ ?_ (fun hHeld => ?_)
  · (try dsimp only); first | assumption | exact keepF3 (by omega) (by assumption) (by assumption)
  clear hK K
  try simp only [Act.put, List.setIfInBounds_toArray, List.set_cons_zero, List.set_cons_succ]
  refine wpAnyH_take (i := 11) (oi := { dst := _, op := _, type := _, pos := _, after := _, guard := _ }) (v := ?_) rfl (by kernel_rfl) (by kernel_rfl) (by kernel_rfl) (fun _ _ _ h => h) (Or.inl ⟨by rfl, ?_⟩) (by assumption) ?_
  rotate_left
  · intro wS hSw; (try dsimp only at hSw); go_simp; try (with_reducible rfl)
  try simp only [Act.put, List.setIfInBounds_toArray, List.set_cons_zero, List.set_cons_succ]
  refine wpAnyH_take (i := 12) (oi := { dst := _, op := _, type := _, pos := _, after := _, guard := _ }) (v := ?_) rfl (by kernel_rfl) (by kernel_rfl) (by kernel_rfl) (fun _ _ _ h => h) (Or.inl ⟨by rfl, ?_⟩) (by assumption) ?_
  rotate_left
  · intro wS hSw; (try dsimp only at hSw); go_simp; try (with_reducible rfl)
  try simp only [Act.put, List.setIfInBounds_toArray, List.set_cons_zero, List.set_cons_succ]
  refine wpAnyH_done (by kernel_rfl) ?_ _
  refine NoPanic.normal ?_
  have hS := (by assumption : Below V.heap.size V _ ∧ World.rangeAt _ w.heap.size 0 (mL g p s t) ∧ _ ∧ _)
  go_wp2_with fail
  go_ret
  exact ⟨ret_iE (by rw [HE.out]), hwV.trans (hS.1.mono (by omega))⟩
end Go.Proofs.YtdoklolinbmhpaaGreat
