/- Tide, part Y: what CheckGauge and Says answer, against the reference. -/
import Derived.Test.YtfjankkkeehioaaTQ
import Derived.Test.YtfjankkkeehioaaTW
import Derived.Test.YtfjankkkeehioaaTX
set_option linter.all false
namespace Go.Proofs.Ytfjankkkeehioaa
open Go.RowKit

theorem checkGaugeVal (g : Gau) (p : GPos) (w : World) (q : Int × Int × Int) (hok : GauOk w p g) (hq : gaugeP g = q) :
    Calls Try.prog 28 #[.agg #[.string g.name, .int .i64 g.err, .int .i64 g.rate, .slice p.da g.ds.length p.dc, .slice p.ra g.rs.length p.rc]] w fun e w' => e = .returned (.tuple #[.int .i64 q.1, .int .i64 q.2.1, .int .i64 q.2.2]) ∧ Below w.heap.size w w' := by
  rw [← hq]; exact checkGauge_any g p w hok
theorem rcheckGaugeVal (g : Gau) (p : GPos) (w : World) (q : Int × Int × Int) (hok : GauOk w p g) (hq : gaugeP g = q) :
    Calls Try.prog 29 #[.agg #[.string g.name, .int .i64 g.err, .int .i64 g.rate, .slice p.da g.ds.length p.dc, .slice p.ra g.rs.length p.rc]] w fun e w' => e = .returned (.tuple #[.int .i64 q.1, .int .i64 q.2.1, .int .i64 q.2.2]) ∧ Below w.heap.size w w' := by
  rw [← hq]; exact rcheckGauge_any g p w hok

set_option maxRecDepth 100000 in
set_option maxHeartbeats 2000000 in
theorem rsaysFn_any (g : Gau) (p : GPos) (t now : Int) (w : World) (hok : GauOk w p g) :
    Calls Try.prog 31 #[.agg #[.string g.name, .int .i64 g.err, .int .i64 g.rate, .slice p.da g.ds.length p.dc, .slice p.ra g.rs.length p.rc], .int .i64 t, .int .i64 now] w
      fun e w' => e = .returned (.tuple #[.agg #[.int .i64 (saysP g t now).1.1, .int .i64 (saysP g t now).1.2], .int .i64 (saysP g t now).2]) ∧ Below w.heap.size w w' := by
  have HH := hid hok; clear hok
  have HP := hid (saysP_eq g t now)
  go_enter Try.func31, Try.ntmps31
  go_wp2_with fail
  generalize hW1 : World.alloc (World.alloc w _) _ = W1
  have B1 : Below w.heap.size w W1 := by rw [← hW1]; repeat (first | exact Below.refl _ _ | refine Below.alloc ?_ (by simp <;> omega) _)
  have S1 : w.heap.size + 1 < W1.heap.size := by rw [← hW1]; simp
  have hbox : GauBox W1 w.heap.size g p := by rw [← hW1]; exact ⟨by simp [go_sem], by simp [go_sem], by simp [go_sem], by simp [go_sem], by simp [go_sem]⟩
  have r0 : W1.cell? ⟨w.heap.size + 1, 0, none⟩ = some (.int .i64 0) := by rw [← hW1]; simp [go_sem]
  have r1 : W1.cell? ⟨w.heap.size + 1, 1, none⟩ = some (.int .i64 0) := by rw [← hW1]; simp [go_sem]
  have z0 : W1.frozen? ⟨w.heap.size + 1, 0, none⟩ = false := by rw [← hW1]; simp [go_sem]
  have z1 : W1.frozen? ⟨w.heap.size + 1, 1, none⟩ = false := by rw [← hW1]; simp [go_sem]
  clear hW1
  refine (rcheckGauge_any g p _ (HH.out.later B1 (Nat.le_refl _))).mono ?_
  rintro e W2 ⟨rfl, B2⟩
  have hs2 := B2.size
  obtain ⟨c0, c1, c2, c3, c4⟩ := hbox.later B2 (by omega)
  have t0 := (B2.cell (p := ⟨w.heap.size + 1, 0, none⟩) S1).trans r0
  have t1 := (B2.cell (p := ⟨w.heap.size + 1, 1, none⟩) S1).trans r1
  have u0 := (B2.frozen (p := ⟨w.heap.size + 1, 0, none⟩) S1).trans z0
  have u1 := (B2.frozen (p := ⟨w.heap.size + 1, 1, none⟩) S1).trans z1
  have BW : Below w.heap.size w W2 := B1.trans (B2.mono (by omega))
  clear hbox r0 r1 z0 z1
  have HGd := hid (fun h => gauGood (g := g) h)
  generalize gaugeP g = q at *
  by_cases hq : q.2.2 = 0
  · have hq' : (q.2.2 != 0) = false := by simp [hq]
    have hq'' : (q.2.2 == 0) = true := by simp [hq]
    have HQ := hid hq; clear hq
    cases ht : inB t 0 200000
    · have HT := hid ht
      go_wp2_with (go_at_call 61; refine (rtick_val _ _ _ (by assumption)).mono ?_; rintro e w' ⟨rfl, rfl⟩)
      refine bodyPost_ret (v := .tuple #[.agg #[.int .i64 0, .int .i64 0], .int .i64 7]) (by simp [results, Try.results31, go_sem, *]) rfl ⟨by rw [HP.out]; simp [HQ.out, HT.out], ?_⟩
      repeat (first | exact BW | refine Below.setCell ?_ (by simp) _)
    · have HT := hid ht
      cases hn : inB now 0 200000
      · have HN := hid hn
        go_wp2_with (go_at_call 61; refine (rtick_val _ _ _ (by assumption)).mono ?_; rintro e w' ⟨rfl, rfl⟩)
        refine bodyPost_ret (v := .tuple #[.agg #[.int .i64 0, .int .i64 0], .int .i64 7]) (by simp [results, Try.results31, go_sem, *]) rfl ⟨by rw [HP.out]; simp [HQ.out, HT.out, HN.out], ?_⟩
        repeat (first | exact BW | refine Below.setCell ?_ (by simp) _)
      · have HN := hid hn
        go_wp2_with (go_at_call 61; refine (rtick_val _ _ _ (by assumption)).mono ?_; rintro e w' ⟨rfl, rfl⟩)
        refine (rsays_any g p t now _ (HH.out.later BW (Nat.le_refl _)) (HGd.out HQ.out) (inB_iff.1 HT.out)).mono ?_
        rintro e W3 ⟨rfl, B3⟩
        have HF := hid (show saysP g t now = sayP g t now by rw [HP.out]; simp [HQ.out, HT.out, HN.out])
        generalize sayP g t now = s at *
        have hs3 := B3.size
        have x0 := (B3.cell (p := ⟨w.heap.size + 1, 0, none⟩) (by simp; omega)).trans t0
        have x1 := (B3.cell (p := ⟨w.heap.size + 1, 1, none⟩) (by simp; omega)).trans t1
        have y0 := (B3.frozen (p := ⟨w.heap.size + 1, 0, none⟩) (by simp; omega)).trans u0
        have y1 := (B3.frozen (p := ⟨w.heap.size + 1, 1, none⟩) (by simp; omega)).trans u1
        clear t0 t1 u0 u1 c0 c1 c2 c3 c4
        go_wp2_with fail
        refine bodyPost_ret (v := .tuple #[.agg #[.int .i64 s.1.1, .int .i64 s.1.2], .int .i64 s.2]) (by simp [results, Try.results31, go_sem, *]) rfl ⟨by rw [HF.out], ?_⟩
        repeat (first | exact BW.trans (B3.mono (by omega)) | refine Below.alloc ?_ (by simp <;> omega) _ | refine Below.setCell ?_ (by simp) _)
  · have hq' : (q.2.2 != 0) = true := by simp [hq]
    have hq'' : (q.2.2 == 0) = false := by simp [hq]
    have HQ := hid hq; clear hq
    go_wp2_with fail
    refine bodyPost_ret (v := .tuple #[.agg #[.int .i64 0, .int .i64 0], .int .i64 q.2.2]) (by simp [results, Try.results31, go_sem, *]) rfl ⟨by rw [HP.out, if_pos HQ.out], ?_⟩
    repeat (first | exact BW | refine Below.setCell ?_ (by simp) _)
theorem rsaysVal (g : Gau) (p : GPos) (t now : Int) (s : (Int × Int) × Int) (w : World) (hok : GauOk w p g) (hs : saysP g t now = s) :
    Calls Try.prog 31 #[.agg #[.string g.name, .int .i64 g.err, .int .i64 g.rate, .slice p.da g.ds.length p.dc, .slice p.ra g.rs.length p.rc], .int .i64 t, .int .i64 now] w
      fun e w' => e = .returned (.tuple #[.agg #[.int .i64 s.1.1, .int .i64 s.1.2], .int .i64 s.2]) ∧ Below w.heap.size w w' := by
  rw [← hs]; exact rsaysFn_any g p t now w hok

set_option maxRecDepth 100000 in
set_option maxHeartbeats 2000000 in
theorem lawSays_any (g : Gau) (p : GPos) (t now : Int) (w : World) (hok : GauOk w p g) :
    Calls Try.prog 5 #[.agg #[.string g.name, .int .i64 g.err, .int .i64 g.rate, .slice p.da g.ds.length p.dc, .slice p.ra g.rs.length p.rc], .int .i64 t, .int .i64 now] w
      fun e w' => e = .returned (.bool true) ∧ Below w.heap.size w w' := by
  obtain ⟨q, hq⟩ : ∃ q, gaugeP g = q := ⟨_, rfl⟩
  obtain ⟨s, hs⟩ : ∃ s, saysP g t now = s := ⟨_, rfl⟩
  have HH := hid hok; have HQ := hid hq; have HS := hid hs; clear hok hq hs
  go_enter Try.func5, Try.ntmps5
  go_wp2_with fail
  generalize hW1 : World.alloc w _ = W1
  have B1 : Below w.heap.size w W1 := by rw [← hW1]; exact (Below.refl _ _).alloc (Nat.le_refl _) _
  have S1 : w.heap.size < W1.heap.size := by rw [← hW1]; simp
  have hbox : GauBox W1 w.heap.size g p := by rw [← hW1]; exact ⟨by simp [go_sem], by simp [go_sem], by simp [go_sem], by simp [go_sem], by simp [go_sem]⟩
  clear hW1
  have HB := hid hbox; clear hbox
  refine (checkGaugeVal g p _ q (HH.out.later B1 (Nat.le_refl _)) HQ.out).mono ?_
  rintro e W2 ⟨rfl, B2⟩
  have BW2 : Below w.heap.size w W2 := B1.trans (B2.mono (by omega))
  have G2 : Below W1.heap.size W1 W2 := B2
  clear B2
  obtain ⟨c0, c1, c2, c3, c4⟩ := HB.out.later G2 S1
  go_wp2_with fail
  refine (rcheckGaugeVal g p _ q (HH.out.later BW2 (Nat.le_refl _)) HQ.out).mono ?_
  rintro e W3 ⟨rfl, B3⟩
  have BW3 : Below w.heap.size w W3 := BW2.trans (B3.mono BW2.size)
  have G3 : Below W1.heap.size W1 W3 := G2.trans (B3.mono G2.size)
  clear B3 G2 BW2 c0 c1 c2 c3 c4
  obtain ⟨c0, c1, c2, c3, c4⟩ := HB.out.later G3 S1
  go_wp2_with fail
  refine (saysVal g p t now s _ (HH.out.later BW3 (Nat.le_refl _)) HS.out).mono ?_
  rintro e W4 ⟨rfl, B4⟩
  have BW4 : Below w.heap.size w W4 := BW3.trans (B4.mono BW3.size)
  have G4 : Below W1.heap.size W1 W4 := G3.trans (B4.mono G3.size)
  clear B4 G3 BW3 c0 c1 c2 c3 c4
  obtain ⟨c0, c1, c2, c3, c4⟩ := HB.out.later G4 S1
  have l4 : w.heap.size < W4.heap.size := Nat.lt_of_lt_of_le S1 G4.size
  have n4 : w.heap.size ≠ W4.heap.size := by omega
  go_wp2_with fail
  refine (rsaysVal g p t now s _ (HH.out.later (BW4.alloc (Nat.le_of_lt l4) _) (Nat.le_refl _)) HS.out).mono ?_
  rintro e W5 ⟨rfl, B5⟩
  have a0 : W5.cell? ⟨W4.heap.size, 0, none⟩ = some (.int .i64 s.1.1) := (B5.cell (p := ⟨W4.heap.size, 0, none⟩) (by simp)).trans (by simp [go_sem])
  have a1 : W5.cell? ⟨W4.heap.size, 1, none⟩ = some (.int .i64 s.1.2) := (B5.cell (p := ⟨W4.heap.size, 1, none⟩) (by simp)).trans (by simp [go_sem])
  have BW5 : Below w.heap.size w W5 := (BW4.alloc (Nat.le_of_lt l4) _).trans (B5.mono (by simp; omega))
  have l5 : W4.heap.size < W5.heap.size := by have := B5.size; simp at this; omega
  have n5 : W4.heap.size ≠ W5.heap.size := by omega
  have l5' : w.heap.size ≤ W5.heap.size := by omega
  clear B5 BW4 G4 c0 c1 c2 c3 c4 n4
  go_wp2_with fail
  refine (awake_any _).mono ?_
  rintro e W6 ⟨rfl, B6⟩
  have BW6 : Below w.heap.size w W6 := (BW5.alloc l5' _).trans (B6.mono (by simp; omega))
  clear B6 BW5 a0 a1
  go_wp2_with fail
  go_ret
  exact ⟨rfl, BW6⟩
end Go.Proofs.Ytfjankkkeehioaa
