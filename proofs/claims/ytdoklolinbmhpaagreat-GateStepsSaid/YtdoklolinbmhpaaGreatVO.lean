/- Gate, part VO: how far a gate goes with a force. -/
import Derived.Test.YtdoklolinbmhpaaGreatVN
set_option linter.all false
namespace Go.Proofs.YtdoklolinbmhpaaGreat
open Go.RowKit

set_option maxRecDepth 100000 in
set_option maxHeartbeats 4000000 in
theorem follow_any (g : Gt) (p : GtP) (s : St) (t : Sp) (force left : Int) (w : World) (hg : GtGood g) (hs : StGood g s) (ht : SpGood t) (hf : -2000000 ≤ force ∧ force ≤ 2000000) (hl : 0 ≤ left ∧ left ≤ 5000) :
    Calls Tryz.prog 124 #[.agg (mL g p s t).toArray, .int .i64 force, .int .i64 left] w fun e w' => e = .returned (.agg #[.int .i64 (followF g s t force left).1, .int .i64 (followF g s t force left).2]) ∧ Below w.heap.size w w' := by
  have HE := hid (show followF g s t force left = if frictF g s.pos t.outer t.inner < force then (min g.gravity left, 0) else if t.power = true ∧ frictF g s.pos t.outer t.inner < force + g.drive then drivenF g s.charge (min g.speed left) else (0, 0) from rfl)
  have db := hg.drive
  have HD := hid (fun (W : World) (x1 : w.heap.size + 1 < W.heap.size) (y0 : W.cell? ⟨w.heap.size + 1, 0, none⟩ = some (.int .i64 0)) (y1 : W.cell? ⟨w.heap.size + 1, 1, none⟩ = some (.int .i64 0)) (hW : Below w.heap.size w W) (zz : ∀ o, W.frozen? ⟨w.heap.size + 1, o, none⟩ = false) => show Calls Tryz.prog 132 #[.agg (mL g p s t).toArray, .int .i64 (min g.speed left)] W (fun e w' => e = .returned (.agg #[.int .i64 (drivenF g s.charge (min g.speed left)).1, .int .i64 (drivenF g s.charge (min g.speed left)).2]) ∧ Below w.heap.size w w' ∧ w.heap.size + 1 < w'.heap.size ∧ w'.cell? ⟨w.heap.size + 1, 0, none⟩ = some (.int .i64 0) ∧ w'.cell? ⟨w.heap.size + 1, 1, none⟩ = some (.int .i64 0) ∧ (∀ o, w'.frozen? ⟨w.heap.size + 1, o, none⟩ = false)) from Calls.mono (driven_any g p s t (min g.speed left) W hg (by have := hs.charge; have := hg.cap; omega) (by have := hg.speed; omega)) (fun e w' h => ⟨h.1, hW.trans (h.2.mono hW.size), Nat.lt_of_lt_of_le x1 h.2.size, (h.2.cell (p := ⟨w.heap.size + 1, 0, none⟩) x1).trans y0, (h.2.cell (p := ⟨w.heap.size + 1, 1, none⟩) x1).trans y1, fun o => (h.2.frozen (p := ⟨w.heap.size + 1, o, none⟩) x1).trans (zz o)⟩))
  generalize drivenF g s.charge (min g.speed left) = d at *
  have w1 : IntKind.i64.wrap (force + g.drive) = force + g.drive := IntWalk.i64_in _ (by omega)
  go_enter Tryz.func124, Tryz.ntmps124
  have R := range_alloc w (mL g p s t) 74
  have bA : Below w.heap.size w (w.alloc (.cells (mL g p s t).toArray 74)) := (Below.refl _ _).alloc (Nat.le_refl _) _
  have S0 : w.heap.size < (w.alloc (.cells (mL g p s t).toArray 74)).heap.size := by simp
  have bB : Below (w.alloc (.cells (mL g p s t).toArray 74)).heap.size (w.alloc (.cells (mL g p s t).toArray 74)) ((w.alloc (.cells (mL g p s t).toArray 74)).alloc (.cells #[.int .i64 0, .int .i64 0] 107)) := (Below.refl _ _).alloc (Nat.le_refl _) _
  replace R := range_later R bB S0
  have S1 : w.heap.size < ((w.alloc (.cells (mL g p s t).toArray 74)).alloc (.cells #[.int .i64 0, .int .i64 0] 107)).heap.size := by simp <;> omega
  have S2 : w.heap.size + 1 < ((w.alloc (.cells (mL g p s t).toArray 74)).alloc (.cells #[.int .i64 0, .int .i64 0] 107)).heap.size := by simp <;> omega
  have d0 : ((w.alloc (.cells (mL g p s t).toArray 74)).alloc (.cells #[.int .i64 0, .int .i64 0] 107)).cell? ⟨w.heap.size + 1, 0, none⟩ = some (.int .i64 0) := by
    have := range_alloc (w.alloc (.cells (mL g p s t).toArray 74)) [.int .i64 0, .int .i64 0] 107
    rw [World.size_alloc] at this
    exact range_cell this rfl
  have d1 : ((w.alloc (.cells (mL g p s t).toArray 74)).alloc (.cells #[.int .i64 0, .int .i64 0] 107)).cell? ⟨w.heap.size + 1, 1, none⟩ = some (.int .i64 0) := by
    have := range_alloc (w.alloc (.cells (mL g p s t).toArray 74)) [.int .i64 0, .int .i64 0] 107
    rw [World.size_alloc] at this
    exact range_cell this rfl
  have z0 : ∀ o, ((w.alloc (.cells (mL g p s t).toArray 74)).alloc (.cells #[.int .i64 0, .int .i64 0] 107)).frozen? ⟨w.heap.size + 1, o, none⟩ = false := by intro o; simp [go_sem]
  have HF := hid (show Calls Tryz.prog 78 #[.agg (mL g p s t).toArray] ((w.alloc (.cells (mL g p s t).toArray 74)).alloc (.cells #[.int .i64 0, .int .i64 0] 107)) (fun e w' => e = .returned (.int .i64 (frictF g s.pos t.outer t.inner)) ∧ Below w.heap.size w w' ∧ w.heap.size < w'.heap.size ∧ w.heap.size + 1 < w'.heap.size ∧ w'.cell? ⟨w.heap.size, 14, none⟩ = some (.int .i64 g.gravity) ∧ w'.cell? ⟨w.heap.size, 13, none⟩ = some (.int .i64 g.speed) ∧ w'.cell? ⟨w.heap.size, 11, none⟩ = some (.int .i64 g.drive) ∧ w'.cell? ⟨w.heap.size, 25, none⟩ = some (.bool t.power) ∧ w'.cell? ⟨w.heap.size + 1, 0, none⟩ = some (.int .i64 0) ∧ w'.cell? ⟨w.heap.size + 1, 1, none⟩ = some (.int .i64 0) ∧ w'.rangeAt w.heap.size 0 (mL g p s t) ∧ (∀ o, w'.frozen? ⟨w.heap.size + 1, o, none⟩ = false)) from Calls.mono (friction_any g p s t _ hg hs.pos ht.outer ht.inner) (fun e w' h => ⟨h.1, bA.trans ((bB.trans (h.2.mono bB.size)).mono (Nat.le_of_lt S0)), Nat.lt_of_lt_of_le S1 h.2.size, Nat.lt_of_lt_of_le S2 h.2.size, range_cell (range_later R h.2 S1) rfl, range_cell (range_later R h.2 S1) rfl, range_cell (range_later R h.2 S1) rfl, range_cell (range_later R h.2 S1) rfl, (h.2.cell (p := ⟨w.heap.size + 1, 0, none⟩) S2).trans d0, (h.2.cell (p := ⟨w.heap.size + 1, 1, none⟩) S2).trans d1, range_later R h.2 S1, fun o => (h.2.frozen (p := ⟨w.heap.size + 1, o, none⟩) S2).trans (z0 o)⟩))
  generalize frictF g s.pos t.outer t.inner = fr at *
  generalize followF g s t force left = fo at *
  have LR := hid R
  clear hg hs ht bA bB S0 S1 S2 d0 d1 z0
  by_cases h1 : fr < force
  · have HR := hid (HE.out.trans (if_pos h1))
    go_wp2_with (first | (refine wpList_load_mid rfl 74 _ rfl _ 0 rfl (mL g p s t) _ R Tryz.underlying74 rfl (by kernel_rfl) ?_) | (go_at_call 78; (with_reducible refine (HF.out).mono ?_); rintro e w' ⟨rfl, hwV, sV0, sV1, c14, c13, c11, c25, e0, e1, R3, z1⟩))
    refine bodyPost_ret (v := .agg #[.int .i64 (min g.gravity left), .int .i64 0]) (by simp [results, Tryz.results124, go_sem, *]) rfl ⟨ret_mo HR.out, ?_⟩
    exact (hwV.setCell (by simp) _).setCell (by simp) _
  · rcases hpw : t.power with _ | _
    · have HR := hid (HE.out.trans ((if_neg h1).trans (if_neg (by rw [hpw]; simp))))
      go_wp2_with (first | (refine wpList_load_mid rfl 74 _ rfl _ 0 rfl (mL g p s t) _ R Tryz.underlying74 rfl (by kernel_rfl) ?_) | (go_at_call 78; (with_reducible refine (HF.out).mono ?_); rintro e w' ⟨rfl, hwV, sV0, sV1, c14, c13, c11, c25, e0, e1, R3, z1⟩))
      refine bodyPost_ret (v := .agg #[.int .i64 0, .int .i64 0]) (by simp [results, Tryz.results124, go_sem, *]) rfl ⟨ret_mo HR.out, ?_⟩
      exact (hwV.setCell (by simp) _).setCell (by simp) _
    · by_cases h2 : fr < force + g.drive
      · have HR := hid (HE.out.trans ((if_neg h1).trans (if_pos ⟨hpw, h2⟩)))
        go_wp2_with (first | (refine wpList_load_mid rfl 74 _ rfl _ 0 rfl (mL g p s t) _ R Tryz.underlying74 rfl (by kernel_rfl) ?_) | (refine wpList_load_mid rfl 74 _ rfl _ 0 rfl (mL g p s t) _ (by assumption) Tryz.underlying74 rfl (by kernel_rfl) ?_) | (go_at_call 78; (with_reducible refine (HF.out).mono ?_); rintro e w' ⟨rfl, hwV, sV0, sV1, c14, c13, c11, c25, e0, e1, R3, z1⟩) | (go_at_call 132; (with_reducible refine (HD.out _ sV1 e0 e1 hwV z1).mono ?_); rintro e w' ⟨rfl, hwW, sW1, e2, e3, z2⟩))
        refine bodyPost_ret (v := .agg #[.int .i64 d.1, .int .i64 d.2]) (by simp [results, Tryz.results124, go_sem, *]) rfl ⟨ret_mo HR.out, ?_⟩
        exact (hwW.setCell (by simp) _).setCell (by simp) _
      · have HR := hid (HE.out.trans ((if_neg h1).trans (if_neg (by rintro ⟨_, x⟩; exact h2 x))))
        go_wp2_with (first | (refine wpList_load_mid rfl 74 _ rfl _ 0 rfl (mL g p s t) _ R Tryz.underlying74 rfl (by kernel_rfl) ?_) | (go_at_call 78; (with_reducible refine (HF.out).mono ?_); rintro e w' ⟨rfl, hwV, sV0, sV1, c14, c13, c11, c25, e0, e1, R3, z1⟩))
        refine bodyPost_ret (v := .agg #[.int .i64 0, .int .i64 0]) (by simp [results, Tryz.results124, go_sem, *]) rfl ⟨ret_mo HR.out, ?_⟩
        exact (hwV.setCell (by simp) _).setCell (by simp) _
end Go.Proofs.YtdoklolinbmhpaaGreat
