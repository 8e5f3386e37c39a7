/- Gate, part VF: the check of a gate's sensors; Check. -/
import Derived.Test.YtdoklolinbmhpaaGreatVE
set_option linter.all false
namespace Go.Proofs.YtdoklolinbmhpaaGreat
open Go.RowKit

set_option maxRecDepth 100000 in
set_option maxHeartbeats 2000000 in
theorem sensorError_any (s : Sen) (w : World) :
    Calls Tryz.prog 123 #[.agg #[.int .i64 s.kind, .int .i64 s.at_, .int .i64 s.tol]] w fun e w' => e = .returned (.int .i64 (senE s)) ∧ Below w.heap.size w w' := by
  obtain ⟨a, ha⟩ : ∃ a, inB s.kind 1 2 = a := ⟨_, rfl⟩
  obtain ⟨b, hb⟩ : ∃ b, inB s.at_ 0 5000 = b := ⟨_, rfl⟩
  obtain ⟨c, hc⟩ : ∃ c, inB s.tol 0 5000 = c := ⟨_, rfl⟩
  have HE := hid (show senE s = if a = false ∨ (s.kind = 1 ∧ s.at_ ≠ 0) then 2 else if b = false ∨ c = false then 7 else 0 by rw [← ha, ← hb, ← hc]; rfl)
  have HA := hid ha; have HB := hid hb; have HC := hid hc
  clear ha hb hc
  cases a
  · go_enter Tryz.func123, Tryz.ntmps123
    go_wp2_with ((with_reducible refine (in_val _ _ _ _ _ HA.out).mono ?_); rintro e w' ⟨rfl, rfl⟩)
    go_ret
    exact ⟨ret_iE (by rw [HE.out]; simp), (Below.refl _ _).alloc (Nat.le_refl _) _⟩
  by_cases h1 : s.kind = 1
  · have q1 : (s.kind == 1) = true := by simp [h1]
    have H1 := hid h1; clear h1
    by_cases h0 : s.at_ = 0
    · have q0 : (s.at_ != 0) = false := by simp [h0]
      have H0 := hid h0; clear h0
      cases b
      · go_enter Tryz.func123, Tryz.ntmps123
        go_wp2_with (first | ((with_reducible refine (in_val _ _ _ _ _ HA.out).mono ?_); rintro e w' ⟨rfl, rfl⟩) | ((with_reducible refine (in_val _ _ _ _ _ HB.out).mono ?_); rintro e w' ⟨rfl, rfl⟩))
        go_ret
        exact ⟨ret_iE (by rw [HE.out]; simp [H0.out]), (Below.refl _ _).alloc (Nat.le_refl _) _⟩
      cases c
      all_goals
        go_enter Tryz.func123, Tryz.ntmps123
        go_wp2_with (first | ((with_reducible refine (in_val _ _ _ _ _ HA.out).mono ?_); rintro e w' ⟨rfl, rfl⟩) | ((with_reducible refine (in_val _ _ _ _ _ HB.out).mono ?_); rintro e w' ⟨rfl, rfl⟩) | ((with_reducible refine (in_val _ _ _ _ _ HC.out).mono ?_); rintro e w' ⟨rfl, rfl⟩))
        go_ret
        exact ⟨ret_iE (by rw [HE.out]; simp [H0.out]), (Below.refl _ _).alloc (Nat.le_refl _) _⟩
    · have q0 : (s.at_ != 0) = true := by simp [h0]
      have H0 := hid h0; clear h0
      go_enter Tryz.func123, Tryz.ntmps123
      go_wp2_with ((with_reducible refine (in_val _ _ _ _ _ HA.out).mono ?_); rintro e w' ⟨rfl, rfl⟩)
      go_ret
      exact ⟨ret_iE (by rw [HE.out]; simp [H1.out, H0.out]), (Below.refl _ _).alloc (Nat.le_refl _) _⟩
  · have q1 : (s.kind == 1) = false := by simp [h1]
    have H1 := hid h1; clear h1
    cases b
    · go_enter Tryz.func123, Tryz.ntmps123
      go_wp2_with (first | ((with_reducible refine (in_val _ _ _ _ _ HA.out).mono ?_); rintro e w' ⟨rfl, rfl⟩) | ((with_reducible refine (in_val _ _ _ _ _ HB.out).mono ?_); rintro e w' ⟨rfl, rfl⟩))
      go_ret
      exact ⟨ret_iE (by rw [HE.out]; simp [H1.out]), (Below.refl _ _).alloc (Nat.le_refl _) _⟩
    cases c
    all_goals
      go_enter Tryz.func123, Tryz.ntmps123
      go_wp2_with (first | ((with_reducible refine (in_val _ _ _ _ _ HA.out).mono ?_); rintro e w' ⟨rfl, rfl⟩) | ((with_reducible refine (in_val _ _ _ _ _ HB.out).mono ?_); rintro e w' ⟨rfl, rfl⟩) | ((with_reducible refine (in_val _ _ _ _ _ HC.out).mono ?_); rintro e w' ⟨rfl, rfl⟩))
      go_ret
      exact ⟨ret_iE (by rw [HE.out]; simp [H1.out]), (Below.refl _ _).alloc (Nat.le_refl _) _⟩

theorem callFunc_sen1 (args : Array Value) (w : World) : (callFunc 122 args).run Tryz.prog w = .ok (.enter 122 args) w := by simp [go_sem]
set_option maxRecDepth 100000 in
set_option maxHeartbeats 1000000 in
theorem checkSensors1_any (tb i : Nat) (g : Gt) (p : GtP) (hi : i < g.ss.length) (w : World) (h3 : w.cell? ⟨tb, 19, none⟩ = some (.slice p.sa g.ss.length p.sc)) (hat : SensAt w p.sa g.ss) :
    Calls Tryz.prog 122 #[.int .i64 i, .pointer (some ⟨tb, 0, none⟩)] w fun e w' => e = .returned (.int .i64 (senE (g.ss.getD i default))) ∧ Below w.heap.size w w' := by
  rcases hat with h0 | ⟨b, o, ha, hs, hc⟩
  · rw [h0] at hi; simp at hi
  have hr := hc i hi
  have e : g.ss.getD i default = g.ss[i] := by simp [List.getD, hi]
  rw [e]
  rw [ha] at h3
  generalize g.ss[i] = s at *
  have c0 : w.cell? ⟨b, o + i * 3, none⟩ = some (.int .i64 s.kind) := by simpa using hr 0 _ rfl
  have c1 : w.cell? ⟨b, o + i * 3 + 1, none⟩ = some (.int .i64 s.at_) := hr 1 _ rfl
  have c2 : w.cell? ⟨b, o + i * 3 + 2, none⟩ = some (.int .i64 s.tol) := hr 2 _ rfl
  have hii : (i : Int) < (g.ss.length : Int) := by omega
  have hi0 : (0 : Int) ≤ (i : Int) := Int.natCast_nonneg _
  clear hc ha hr e
  go_enter Tryz.func122, Tryz.ntmps122
  go_wp2_with fail
  refine (sensorError_any s _).mono ?_
  rintro e w' ⟨rfl, hb⟩
  go_wp2_with fail
  go_ret
  exact ⟨rfl, hb⟩
def senF (g : Gt) : Nat → Int := fun i => senE (g.ss.getD i default)
theorem keepO2 {B : Nat} {W1 W w1 : World} {n j k : Nat} {x y : Value} (hb : Below W.heap.size W w1) (h : Below B W1 W ∧ W.cell? ⟨n, j, none⟩ = some x ∧ W.cell? ⟨n, k, none⟩ = some y) (hB : B ≤ W1.heap.size) (hq : n < B := by omega) : Below B W1 w1 ∧ w1.cell? ⟨n, j, none⟩ = some x ∧ w1.cell? ⟨n, k, none⟩ = some y := by
  have hs := Nat.le_trans hB h.1.size
  exact ⟨h.1.trans (hb.mono hs), (hb.cell (p := ⟨n, j, none⟩) (by show n < W.heap.size; omega)).trans h.2.1, (hb.cell (p := ⟨n, k, none⟩) (by show n < W.heap.size; omega)).trans h.2.2⟩
set_option maxRecDepth 100000 in
set_option maxHeartbeats 2000000 in
theorem checkSensors_any (g : Gt) (p : GtP) (w : World) (hwf : GtWf g p) (hat : SensAt w p.sa g.ss) :
    Calls Tryz.prog 98 #[.agg (gtL g p).toArray] w fun e w' => e = .returned (.tuple #[.int .i64 (senP g).1, .int .i64 (senP g).2]) ∧ Below w.heap.size w w' := by
  have HO := hid (show senP g = (firstAt 0 [mustP (decide ((g.ss.length : Int) ≤ 6)) 0 3, eachP (senF g) 0 g.ss.length, mustP (inB g.wrong 0 g.ss.length) 0 7]).2 from rfl)
  generalize senP g = op at *
  have k19 : (gtL g p)[19]? = some (.slice p.sa g.ss.length p.sc) := rfl
  have k20 : (gtL g p)[20]? = some (.int .i64 g.wrong) := rfl
  go_enter Tryz.func98, Tryz.ntmps98
  go_wp2_with fail
  have R := range_alloc w (gtL g p) 25
  generalize hW1 : World.alloc w _ = W1
  have B1 : Below w.heap.size w W1 := by rw [← hW1]; exact (Below.refl _ _).alloc (Nat.le_refl _) _
  have hB1 : w.heap.size + 1 ≤ W1.heap.size := by rw [← hW1]; simp
  rw [hW1] at R
  have c19 := range_cell R k19
  have c20 := range_cell R k20
  clear hW1 R k19 k20
  have HI : Hid (ChkI (w.heap.size + 1) W1 122 #[.pointer (some ⟨w.heap.size, 0, none⟩)] g.ss.length (senF g)) :=
    hid ⟨callFunc_sen1, fun i hi W hW => checkSensors1_any _ i g p hi W ((hW.cell (p := ⟨w.heap.size, 19, none⟩) (by show w.heap.size < _; omega)).trans c19) (hat.later (B1.trans (hW.mono (by omega))) (Nat.le_refl _))⟩
  refine wp_region_noPanic ?_
  refine wp_region_held_drew (S := (fun w' => Below (w.heap.size + 1) W1 w' ∧ w'.cell? ⟨w.heap.size, 19, none⟩ = some (.slice p.sa g.ss.length p.sc) ∧ w'.cell? ⟨w.heap.size, 20, none⟩ = some (.int .i64 g.wrong))) (by kernel_rfl) ?_ (fun hHeld => ?_)
  · exact ⟨(Below.refl _ _).drew, by simpa using c19, by simpa using c20⟩
  refine wpAnyH_take (i := 0) (oi := { dst := _, op := _, type := _, pos := _, after := _, guard := _ }) (v := ?_) rfl (by kernel_rfl) (by kernel_rfl) (by kernel_rfl) (fun _ _ _ h => h) (Or.inl ⟨by rfl, ?_⟩) (by assumption) ?_
  rotate_left
  · intro wS hSw; (try dsimp only at hSw); go_simp; try (with_reducible rfl)
  try simp only [Act.put, List.setIfInBounds_toArray, List.set_cons_zero, List.set_cons_succ]
  refine wpAnyH_take (i := 1) (oi := { dst := _, op := _, type := _, pos := _, after := _, guard := _ }) (v := ?_) rfl (by kernel_rfl) (by kernel_rfl) (by kernel_rfl) (fun _ _ _ h => h) (Or.inl ⟨by rfl, ?_⟩) (by assumption) ?_
  rotate_left
  · intro wS hSw; (try dsimp only at hSw); go_simp; try (with_reducible rfl)
  try simp only [Act.put, List.setIfInBounds_toArray, List.set_cons_zero, List.set_cons_succ]
  refine wpAnyH_take (i := 2) (oi := { dst := _, op := _, type := _, pos := _, after := _, guard := _ }) (v := ?_) rfl (by kernel_rfl) (by kernel_rfl) (by kernel_rfl) (fun _ _ _ h => h) (Or.inl ⟨by rfl, ?_⟩) (by assumption) ?_
  rotate_left
  · intro wS hSw; (try dsimp only at hSw); go_simp; try (with_reducible rfl)
  try simp only [Act.put, List.setIfInBounds_toArray, List.set_cons_zero, List.set_cons_succ]
  refine wpAnyH_take (i := 3) (oi := { dst := _, op := _, type := _, pos := _, after := _, guard := _ }) (v := ?_) rfl (by kernel_rfl) (by kernel_rfl) (by kernel_rfl) (fun _ _ _ h => h) (Or.inl ⟨by rfl, ?_⟩) (by assumption) ?_
  rotate_left
  · intro wS hSw; (try dsimp only at hSw); go_simp; try (with_reducible rfl)
  try simp only [Act.put, List.setIfInBounds_toArray, List.set_cons_zero, List.set_cons_succ]
  refine wpAnyH_take (i := 5) (oi := { dst := _, op := _, type := _, pos := _, after := _, guard := _ }) (v := ?_) rfl (by kernel_rfl) (by kernel_rfl) (by kernel_rfl) (fun _ _ _ h => h) (Or.inl ⟨by rfl, ?_⟩) (by assumption) ?_
  rotate_left
  · intro wS hSw; (try dsimp only at hSw); go_simp; try (with_reducible rfl)
  try simp only [Act.put, List.setIfInBounds_toArray, List.set_cons_zero, List.set_cons_succ]
  refine wpAnyH_take (i := 6) (oi := { dst := _, op := _, type := _, pos := _, after := _, guard := _ }) (v := ?_) rfl (by kernel_rfl) (by kernel_rfl) (by kernel_rfl) (fun _ _ _ h => h) (Or.inl ⟨by rfl, ?_⟩) (by assumption) ?_
  rotate_left
  · intro wS hSw; (try dsimp only at hSw); go_simp; try (with_reducible rfl)
  try simp only [Act.put, List.setIfInBounds_toArray, List.set_cons_zero, List.set_cons_succ]
  refine wpAnyH_take (i := 7) (oi := { dst := _, op := _, type := _, pos := _, after := _, guard := _ }) (v := ?_) rfl (by kernel_rfl) (by kernel_rfl) (by kernel_rfl) (fun _ _ _ h => h) (Or.inl ⟨by rfl, ?_⟩) (by assumption) ?_
  rotate_left
  · intro wS hSw; (try dsimp only at hSw); go_simp; try (with_reducible rfl)
  try simp only [Act.put, List.setIfInBounds_toArray, List.set_cons_zero, List.set_cons_succ]
  refine wpAnyH_take (i := 8) (oi := { dst := _, op := _, type := _, pos := _, after := _, guard := _ }) (v := ?_) rfl (by kernel_rfl) (by kernel_rfl) (by kernel_rfl) (fun _ _ _ h => h) (Or.inl ⟨by rfl, ?_⟩) (by assumption) ?_
  rotate_left
  · intro wS hSw; (try dsimp only at hSw); go_simp; try (with_reducible rfl)
  try simp only [Act.put, List.setIfInBounds_toArray, List.set_cons_zero, List.set_cons_succ]
  refine wpAnyH_take (i := 10) (oi := { dst := _, op := _, type := _, pos := _, after := _, guard := _ }) (v := ?_) rfl (by kernel_rfl) (by kernel_rfl) (by kernel_rfl) (fun _ _ _ h => h) (Or.inl ⟨by rfl, ?_⟩) (by assumption) ?_
  rotate_left
  · intro wS hSw; (try dsimp only at hSw); go_simp; try (with_reducible rfl)
  try simp only [Act.put, List.setIfInBounds_toArray, List.set_cons_zero, List.set_cons_succ]
  refine wpAnyH_take (i := 11) (oi := { dst := _, op := _, type := _, pos := _, after := _, guard := _ }) (v := ?_) rfl (by kernel_rfl) (by kernel_rfl) (by kernel_rfl) (fun _ _ _ h => h) (Or.inl ⟨by rfl, ?_⟩) (by assumption) ?_
  rotate_left
  · intro wS hSw; (try dsimp only at hSw); go_simp; try (with_reducible rfl)
  try simp only [Act.put, List.setIfInBounds_toArray, List.set_cons_zero, List.set_cons_succ]
  refine wpAnyH_take (i := 12) (oi := { dst := _, op := _, type := _, pos := _, after := _, guard := _ }) (v := ?_) rfl (by kernel_rfl) (by kernel_rfl) (by kernel_rfl) (fun _ _ _ h => h) (Or.inl ⟨by rfl, ?_⟩) (by assumption) ?_
  rotate_left
  · intro wS hSw; (try dsimp only at hSw); go_simp; try (with_reducible rfl)
  try simp only [Act.put, List.setIfInBounds_toArray, List.set_cons_zero, List.set_cons_succ]
  refine wpAnyH_take (i := 13) (oi := { dst := _, op := _, type := _, pos := _, after := _, guard := _ }) (v := ?_) rfl (by kernel_rfl) (by kernel_rfl) (by kernel_rfl) (fun _ _ _ h => h) (Or.inl ⟨by rfl, ?_⟩) (by assumption) ?_
  rotate_left
  · intro wS hSw; (try dsimp only at hSw); go_simp; try (with_reducible rfl)
  try simp only [Act.put, List.setIfInBounds_toArray, List.set_cons_zero, List.set_cons_succ]
  refine wpAnyH_take (i := 14) (oi := { dst := _, op := _, type := _, pos := _, after := _, guard := _ }) (v := ?_) rfl (by kernel_rfl) (by kernel_rfl) (by kernel_rfl) (fun _ _ _ h => h) (Or.inl ⟨by rfl, ?_⟩) (by assumption) ?_
  rotate_left
  · intro wS hSw; (try dsimp only at hSw); go_simp; try (with_reducible rfl)
  try simp only [Act.put, List.setIfInBounds_toArray, List.set_cons_zero, List.set_cons_succ]
  refine wpAnyH_ready (rs := [4]) (by kernel_rfl) (by simp) ?_
  refine AllReadyH.cons (o := { dst := _, op := _, type := _, pos := _, after := _, guard := _ }) rfl (fun K hK => ?_) AllReadyH.nil
  go_simp
  (go_at_call 35; refine (must_any _ _ _ _).mono ?_; rintro e w' ⟨caps, rfl, hb, hchk⟩)
  try go_wp2_with fail
  refine hK.out _ _ ?_ (fun hHeld => ?_)
  · (try dsimp only); first | assumption | exact keepO2 (by assumption) (by assumption) hB1 | exact keepO2 ((Below.refl _ _).alloc (Nat.le_refl _) _) (by assumption) hB1
  clear hK K
  try simp only [Act.put, List.setIfInBounds_toArray, List.set_cons_zero, List.set_cons_succ]
  refine wpAnyH_ready (rs := [9]) (by kernel_rfl) (by simp) ?_
  refine AllReadyH.cons (o := { dst := _, op := _, type := _, pos := _, after := _, guard := _ }) rfl (fun K hK => ?_) AllReadyH.nil
  go_simp
  (go_at_call 38; refine (each_any (w.heap.size + 1) W1 g.ss.length (senF g) _ _ _ hwf.scap (Nat.le_trans hB1 (by assumption : Below (w.heap.size + 1) W1 _ ∧ _ ∧ _).1.size) (by assumption : Below (w.heap.size + 1) W1 _ ∧ _ ∧ _).1 HI.out).mono ?_; rintro e w' ⟨caps2, rfl, hb2, hchk2⟩)
  try go_wp2_with fail
  refine hK.out _ _ ?_ (fun hHeld => ?_)
  · (try dsimp only); first | assumption | exact keepO2 (by assumption) (by assumption) hB1 | exact keepO2 ((Below.refl _ _).alloc (Nat.le_refl _) _) (by assumption) hB1
  clear hK K
  try simp only [Act.put, List.setIfInBounds_toArray, List.set_cons_zero, List.set_cons_succ]
  refine wpAnyH_ready (rs := [15]) (by kernel_rfl) (by simp) ?_
  refine AllReadyH.cons (o := { dst := _, op := _, type := _, pos := _, after := _, guard := _ }) rfl (fun K hK => ?_) AllReadyH.nil
  go_simp
  (go_at_call 73; refine (in_any _ _ _ _).mono ?_; rintro e w' ⟨rfl, rfl⟩)
  try go_wp2_with fail
  refine hK.out _ _ ?_ (fun hHeld => ?_)
  · (try dsimp only); first | assumption | exact keepO2 (by assumption) (by assumption) hB1 | exact keepO2 ((Below.refl _ _).alloc (Nat.le_refl _) _) (by assumption) hB1
  clear hK K
  try simp only [Act.put, List.setIfInBounds_toArray, List.set_cons_zero, List.set_cons_succ]
  refine wpAnyH_ready (rs := [16]) (by kernel_rfl) (by simp) ?_
  refine AllReadyH.cons (o := { dst := _, op := _, type := _, pos := _, after := _, guard := _ }) rfl (fun K hK => ?_) AllReadyH.nil
  go_simp
  (go_at_call 35; refine (must_any _ _ _ _).mono ?_; rintro e w' ⟨caps3, rfl, hb3, hchk3⟩)
  try go_wp2_with fail
  refine hK.out _ _ ?_ (fun hHeld => ?_)
  · (try dsimp only); first | assumption | exact keepO2 (by assumption) (by assumption) hB1 | exact keepO2 ((Below.refl _ _).alloc (Nat.le_refl _) _) (by assumption) hB1
  clear hK K
  try simp only [Act.put, List.setIfInBounds_toArray, List.set_cons_zero, List.set_cons_succ]
  refine wpAnyH_ready (rs := [17]) (by kernel_rfl) (by simp) ?_
  refine AllReadyH.cons (o := { dst := _, op := _, type := _, pos := _, after := _, guard := _ }) rfl (fun K hK => ?_) AllReadyH.nil
  go_simp
  refine hK.out _ _ ?_ (fun hHeld => ?_)
  · (try dsimp only); first | assumption | exact keepO2 (by assumption) (by assumption) hB1 | exact keepO2 ((Below.refl _ _).alloc (Nat.le_refl _) _) (by assumption) hB1
  clear hK K
  try simp only [Act.put, List.setIfInBounds_toArray, List.set_cons_zero, List.set_cons_succ]
  refine wpAnyH_ready (rs := [18]) (by kernel_rfl) (by simp) ?_
  refine AllReadyH.cons (o := { dst := _, op := _, type := _, pos := _, after := _, guard := _ }) rfl (fun K hK => ?_) AllReadyH.nil
  go_simp
  (go_at_call 33; refine (first3_chain _ hchk hb2 hchk2 hb3 hchk3).mono ?_; rintro e w' ⟨rfl, hb4⟩)
  try go_wp2_with fail
  refine hK.out _ _ ?_ (fun hHeld => ?_)
  · (try dsimp only); first | assumption | exact keepO2 (by assumption) (by assumption) hB1 | exact keepO2 ((Below.refl _ _).alloc (Nat.le_refl _) _) (by assumption) hB1
  clear hK K
  try simp only [Act.put, List.setIfInBounds_toArray, List.set_cons_zero, List.set_cons_succ]
  refine wpAnyH_take (i := 19) (oi := { dst := _, op := _, type := _, pos := _, after := _, guard := _ }) (v := ?_) rfl (by kernel_rfl) (by kernel_rfl) (by kernel_rfl) (fun _ _ _ h => h) (Or.inl ⟨by rfl, ?_⟩) (by assumption) ?_
  rotate_left
  · intro wS hSw; (try dsimp only at hSw); go_simp; try (with_reducible rfl)
  try simp only [Act.put, List.setIfInBounds_toArray, List.set_cons_zero, List.set_cons_succ]
  refine wpAnyH_take (i := 20) (oi := { dst := _, op := _, type := _, pos := _, after := _, guard := _ }) (v := ?_) rfl (by kernel_rfl) (by kernel_rfl) (by kernel_rfl) (fun _ _ _ h => h) (Or.inl ⟨by rfl, ?_⟩) (by assumption) ?_
  rotate_left
  · intro wS hSw; (try dsimp only at hSw); go_simp; try (with_reducible rfl)
  try simp only [Act.put, List.setIfInBounds_toArray, List.set_cons_zero, List.set_cons_succ]
  refine wpAnyH_take (i := 21) (oi := { dst := _, op := _, type := _, pos := _, after := _, guard := _ }) (v := ?_) rfl (by kernel_rfl) (by kernel_rfl) (by kernel_rfl) (fun _ _ _ h => h) (Or.inl ⟨by rfl, ?_⟩) (by assumption) ?_
  rotate_left
  · intro wS hSw; (try dsimp only at hSw); go_simp; try (with_reducible rfl)
  try simp only [Act.put, List.setIfInBounds_toArray, List.set_cons_zero, List.set_cons_succ]
  refine wpAnyH_take (i := 22) (oi := { dst := _, op := _, type := _, pos := _, after := _, guard := _ }) (v := ?_) rfl (by kernel_rfl) (by kernel_rfl) (by kernel_rfl) (fun _ _ _ h => h) (Or.inl ⟨by rfl, ?_⟩) (by assumption) ?_
  rotate_left
  · intro wS hSw; (try dsimp only at hSw); go_simp; try (with_reducible rfl)
  try simp only [Act.put, List.setIfInBounds_toArray, List.set_cons_zero, List.set_cons_succ]
  refine wpAnyH_take (i := 23) (oi := { dst := _, op := _, type := _, pos := _, after := _, guard := _ }) (v := ?_) rfl (by kernel_rfl) (by kernel_rfl) (by kernel_rfl) (fun _ _ _ h => h) (Or.inl ⟨by rfl, ?_⟩) (by assumption) ?_
  rotate_left
  · intro wS hSw; (try dsimp only at hSw); go_simp; try (with_reducible rfl)
  try simp only [Act.put, List.setIfInBounds_toArray, List.set_cons_zero, List.set_cons_succ]
  refine wpAnyH_take (i := 24) (oi := { dst := _, op := _, type := _, pos := _, after := _, guard := _ }) (v := ?_) rfl (by kernel_rfl) (by kernel_rfl) (by kernel_rfl) (fun _ _ _ h => h) (Or.inl ⟨by rfl, ?_⟩) (by assumption) ?_
  rotate_left
  · intro wS hSw; (try dsimp only at hSw); go_simp; try (with_reducible rfl)
  try simp only [Act.put, List.setIfInBounds_toArray, List.set_cons_zero, List.set_cons_succ]
  refine wpAnyH_done (by kernel_rfl) ?_ _
  refine NoPanic.normal ?_
  have hfin := (by assumption : Below (w.heap.size + 1) W1 _ ∧ World.cell? _ ⟨w.heap.size, 19, none⟩ = some (.slice p.sa g.ss.length p.sc) ∧ _).1
  generalize firstAt 0 _ = r at *
  go_wp2_with fail
  go_ret2
  exact ⟨ret_two (by rw [HO.out]) (by rw [HO.out]), B1.trans (hfin.mono (by omega))⟩
end Go.Proofs.YtdoklolinbmhpaaGreat
