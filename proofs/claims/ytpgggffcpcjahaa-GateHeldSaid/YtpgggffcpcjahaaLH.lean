/- Gate, part LH: the walk of GateHeld. -/
import Derived.Test.YtpgggffcpcjahaaLA
set_option linter.all false
namespace Go.Proofs.Ytpgggffcpcjahaa
open Go.RowKit

set_option maxRecDepth 100000 in
set_option maxHeartbeats 8000000 in
theorem lawHeld_any (g : Gt) (p : GtP) (s : St) (t : Sp) (w : World) (hok : GtOk w p g) :
    Calls Try.prog 8 #[.agg (gtL g p).toArray, .agg #[.int .i64 s.pos, .int .i64 s.charge, .bool s.bolted], .agg #[.int .i64 t.order, .bool t.power, .int .i64 t.outer, .int .i64 t.inner]] w fun e w' => e = .returned (.bool true) ∧ Below w.heap.size w w' := by
  have HOk := hid hok
  clear hok
  have H0 := hid (LwW.start w g p s t)
  have R1 := H0.out.rows
  have s0 := range_cell H0.out.ss (show (stL s)[0]? = some (.int .i64 s.pos) from rfl)
  have s1 := range_cell H0.out.ss (show (stL s)[1]? = some (.int .i64 s.charge) from rfl)
  have s2 := range_cell H0.out.ss (show (stL s)[2]? = some (.bool s.bolted) from rfl)
  have t0 := range_cell H0.out.ts (show (spL t)[0]? = some (.int .i64 t.order) from rfl)
  have t1 := range_cell H0.out.ts (show (spL t)[1]? = some (.bool t.power) from rfl)
  have t2 := range_cell H0.out.ts (show (spL t)[2]? = some (.int .i64 t.outer) from rfl)
  have t3 := range_cell H0.out.ts (show (spL t)[3]? = some (.int .i64 t.inner) from rfl)
  have HS := hid (fun W (hW : GtOk W p g) => stepFn_any g p s t W hW)
  have HF := hid (fun W (hW : GtOk W p g) => force_any g p s.pos t.outer t.inner W hW)
  rcases stepP_two g s t with ⟨x, hx, hE⟩ | ⟨hg0, hs0, hE⟩
  · rw [hE] at HS
    dsimp only at HS
    generalize forceP g s.pos t.outer t.inner = f at *
    have q : (x != 0) = true := by simp [hx]
    clear hE hx
    go_enter Try.func8, Try.ntmps8
    go_wp2_with (refine wpList_load_mid rfl 33 _ rfl _ 0 rfl (gtL g p) _ (R1) Try.underlying33 rfl (by kernel_rfl) ?_)
    refine (HS.out _ (HOk.out.later H0.out.below (Nat.le_refl _))).mono ?_
    rintro e w1 ⟨rfl, hb⟩
    have H1 := hid (H0.out.later hb)
    have l1 := H1.out.lt
    have l1a : w.heap.size < w1.heap.size := by omega
    have l1b : w.heap.size + 1 < w1.heap.size := by omega
    clear s0 s1 s2 t0 t1 t2 t3 hb R1
    have s0 := range_cell H1.out.ss (show (stL s)[0]? = some (.int .i64 s.pos) from rfl)
    have s1 := range_cell H1.out.ss (show (stL s)[1]? = some (.int .i64 s.charge) from rfl)
    have s2 := range_cell H1.out.ss (show (stL s)[2]? = some (.bool s.bolted) from rfl)
    have t0 := range_cell H1.out.ts (show (spL t)[0]? = some (.int .i64 t.order) from rfl)
    have t1 := range_cell H1.out.ts (show (spL t)[1]? = some (.bool t.power) from rfl)
    have t2 := range_cell H1.out.ts (show (spL t)[2]? = some (.int .i64 t.outer) from rfl)
    have t3 := range_cell H1.out.ts (show (spL t)[3]? = some (.int .i64 t.inner) from rfl)
    go_wp2_with (refine wpList_load_mid rfl 33 _ rfl _ 0 rfl (gtL g p) _ ((H1.out.later (((Below.refl _ _).alloc (Nat.le_refl _) _).alloc (by simp) _)).rows) Try.underlying33 rfl (by kernel_rfl) ?_)
    refine (HF.out _ (HOk.out.later (H1.out.later (((Below.refl _ _).alloc (Nat.le_refl _) _).alloc (by simp) _)).below (Nat.le_refl _))).mono ?_
    rintro e w2 ⟨rfl, hb2⟩
    obtain ⟨ru, rm, l2, b12⟩ := two_boxes hb2
    have H2 := hid (H1.out.later b12)
    clear s0 s1 s2 t0 t1 t2 t3 H1 hb2
    have s0 := range_cell H2.out.ss (show (stL s)[0]? = some (.int .i64 s.pos) from rfl)
    have s1 := range_cell H2.out.ss (show (stL s)[1]? = some (.int .i64 s.charge) from rfl)
    have s2 := range_cell H2.out.ss (show (stL s)[2]? = some (.bool s.bolted) from rfl)
    have t0 := range_cell H2.out.ts (show (spL t)[0]? = some (.int .i64 t.order) from rfl)
    have t1 := range_cell H2.out.ts (show (spL t)[1]? = some (.bool t.power) from rfl)
    have t2 := range_cell H2.out.ts (show (spL t)[2]? = some (.int .i64 t.outer) from rfl)
    have t3 := range_cell H2.out.ts (show (spL t)[3]? = some (.int .i64 t.inner) from rfl)
    go_wp2_with fail
    refine (awake_any _).mono ?_
    rintro e w9 ⟨rfl, hb9⟩
    go_wp2_with fail
    go_ret
    exact ⟨rfl, bthen H2.out.below hb9⟩
  · have hg := gtGood hg0
    obtain ⟨hs, ht⟩ := spGoods hs0
    rw [hE] at HS
    rw [forceP_ok hg0 hs ht] at HF
    dsimp only at HS HF
    have hcb := close_bd hg hs.pos ht.outer ht.inner
    have hfb := frict_bd (pos := s.pos) hg ht.outer ht.inner
    have hbr := hg.brake; have hgr := hg.gravity; have htr := hg.travel; have hpo := hs.pos
    have HB := hid (fun h => step_bolted g t 0 (s := s) h)
    have HH := hid (fun hb ho => step_held g (s := s) (t := t) hb ho)
    have HL := hid (held_lim hg hs ht)
    clear hE hg0 hs0 hg hs ht
    generalize closeF g s.pos t.outer t.inner = net at *
    generalize frictF g s.pos t.outer t.inner = rub at *
    generalize stepF g s t 0 = u at *
    generalize holdsF g s t = hd at *
    go_enter Try.func8, Try.ntmps8
    go_wp2_with (refine wpList_load_mid rfl 33 _ rfl _ 0 rfl (gtL g p) _ (R1) Try.underlying33 rfl (by kernel_rfl) ?_)
    refine (HS.out _ (HOk.out.later H0.out.below (Nat.le_refl _))).mono ?_
    rintro e w1 ⟨rfl, hb⟩
    have H1 := hid (H0.out.later hb)
    have l1 := H1.out.lt
    have l1a : w.heap.size < w1.heap.size := by omega
    have l1b : w.heap.size + 1 < w1.heap.size := by omega
    clear s0 s1 s2 t0 t1 t2 t3 hb R1
    have s0 := range_cell H1.out.ss (show (stL s)[0]? = some (.int .i64 s.pos) from rfl)
    have s1 := range_cell H1.out.ss (show (stL s)[1]? = some (.int .i64 s.charge) from rfl)
    have s2 := range_cell H1.out.ss (show (stL s)[2]? = some (.bool s.bolted) from rfl)
    have t0 := range_cell H1.out.ts (show (spL t)[0]? = some (.int .i64 t.order) from rfl)
    have t1 := range_cell H1.out.ts (show (spL t)[1]? = some (.bool t.power) from rfl)
    have t2 := range_cell H1.out.ts (show (spL t)[2]? = some (.int .i64 t.outer) from rfl)
    have t3 := range_cell H1.out.ts (show (spL t)[3]? = some (.int .i64 t.inner) from rfl)
    go_wp2_with (refine wpList_load_mid rfl 33 _ rfl _ 0 rfl (gtL g p) _ ((H1.out.later (((Below.refl _ _).alloc (Nat.le_refl _) _).alloc (by simp) _)).rows) Try.underlying33 rfl (by kernel_rfl) ?_)
    refine (HF.out _ (HOk.out.later (H1.out.later (((Below.refl _ _).alloc (Nat.le_refl _) _).alloc (by simp) _)).below (Nat.le_refl _))).mono ?_
    rintro e w2 ⟨rfl, hb2⟩
    obtain ⟨ru, rm, l2, b12⟩ := two_boxes hb2
    have H2 := hid (H1.out.later b12)
    clear s0 s1 s2 t0 t1 t2 t3 H1 hb2
    have s0 := range_cell H2.out.ss (show (stL s)[0]? = some (.int .i64 s.pos) from rfl)
    have s1 := range_cell H2.out.ss (show (stL s)[1]? = some (.int .i64 s.charge) from rfl)
    have s2 := range_cell H2.out.ss (show (stL s)[2]? = some (.bool s.bolted) from rfl)
    have t0 := range_cell H2.out.ts (show (spL t)[0]? = some (.int .i64 t.order) from rfl)
    have t1 := range_cell H2.out.ts (show (spL t)[1]? = some (.bool t.power) from rfl)
    have t2 := range_cell H2.out.ts (show (spL t)[2]? = some (.int .i64 t.outer) from rfl)
    have t3 := range_cell H2.out.ts (show (spL t)[3]? = some (.int .i64 t.inner) from rfl)
    have u0 := range_cell ru (show [_, _, _][0]? = some (.int .i64 u.1.pos) from rfl)
    have m1 := range_cell rm (show [_, _, _][1]? = some (.int .i64 u.2.2.1) from rfl)
    have k1 := range_cell H2.out.rows (show (gtL g p)[12]? = some (.int .i64 g.brake) from rfl)
    have k2 := range_cell H2.out.rows (show (gtL g p)[14]? = some (.int .i64 g.gravity) from rfl)
    have k3 := range_cell H2.out.rows (show (gtL g p)[2]? = some (.int .i64 g.travel) from rfl)
    clear ru rm
    rcases hbo : s.bolted with _ | _
    · by_cases ho : t.order = 0
      · have e := HH.out (by simp [hbo]) ho
        rw [← e] at HL
        clear HH HB e
        have qo : (t.order != 0) = false := by simp [ho]
        have HLs := hid (fun W => lsize_any net W (by omega))
        have ws : IntKind.i64.wrap (g.brake + rub) = g.brake + rub := IntWalk.i64_in _ (by omega)
        have wt : IntKind.i64.wrap (g.travel - s.pos) = g.travel - s.pos := IntWalk.i64_in _ (by omega)
        have HO := hid ho
        clear ho
        by_cases h1 : max net (-net) ≤ g.brake + rub
        · have qm : (u.2.2.1 == 0) = true := by simp [HL.out.1 h1]
          have q1 : decide (max net (-net) ≤ g.brake + rub) = true := by simp [h1]
          clear HL h1
          go_wp2_with fail
          go_quiet ((go_at_call 32; exact Calls.quiet_of_same' (HLs.out _)))
          go_wp2_with fail
          refine (awake_any _).mono ?_
          rintro e w9 ⟨rfl, hb9⟩
          go_wp2_with fail
          go_ret
          exact ⟨rfl, bthen (below_drewN H2.out.below _) hb9⟩
        · have q1 : decide (max net (-net) ≤ g.brake + rub) = false := by simp [h1]
          by_cases h2 : 0 < net
          · have qm : (u.2.2.1 == min g.gravity (g.travel - s.pos)) = true := by simp [(HL.out.2 (by omega)).1 (by omega)]
            have q2 : decide (0 < net) = true := by simp [h2]
            clear HL h1 h2
            go_wp2_with fail
            go_quiet ((go_at_call 32; exact Calls.quiet_of_same' (HLs.out _)))
            go_wp2_with fail
            refine (awake_any _).mono ?_
            rintro e w9 ⟨rfl, hb9⟩
            go_wp2_with fail
            go_ret
            exact ⟨rfl, bthen (below_drewN H2.out.below _) hb9⟩
          · have qm : (u.2.2.1 == -min g.gravity s.pos) = true := by simp [(HL.out.2 (by omega)).2 (by omega)]
            have wn : IntKind.i64.wrap (-min g.gravity s.pos) = -min g.gravity s.pos := IntWalk.i64_in _ (by omega)
            have q2 : decide (0 < net) = false := by simp [h2]
            clear HL h1 h2
            go_wp2_with fail
            go_quiet ((go_at_call 32; exact Calls.quiet_of_same' (HLs.out _)))
            go_wp2_with fail
            refine (awake_any _).mono ?_
            rintro e w9 ⟨rfl, hb9⟩
            go_wp2_with fail
            go_ret
            exact ⟨rfl, bthen (below_drewN H2.out.below _) hb9⟩
      · have qo : (t.order != 0) = true := by simp [ho]
        clear ho
        go_wp2_with fail
        refine (awake_any _).mono ?_
        rintro e w9 ⟨rfl, hb9⟩
        go_wp2_with fail
        go_ret
        exact ⟨rfl, bthen H2.out.below hb9⟩
    · have e := HB.out hbo
      have qp : (u.1.pos == s.pos) = true := by simp [e.2.1]
      have qm : (u.2.2.1 == 0) = true := by simp [e.1]
      clear HB e
      go_wp2_with fail
      refine (awake_any _).mono ?_
      rintro e w9 ⟨rfl, hb9⟩
      go_wp2_with fail
      go_ret
      exact ⟨rfl, bthen H2.out.below hb9⟩
end Go.Proofs.Ytpgggffcpcjahaa
