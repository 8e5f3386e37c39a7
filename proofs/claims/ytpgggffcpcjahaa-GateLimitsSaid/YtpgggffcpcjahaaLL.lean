/- Gate, part LL: the walk of GateLimits. -/
import Derived.Test.YtpgggffcpcjahaaLA
set_option linter.all false
namespace Go.Proofs.Ytpgggffcpcjahaa
open Go.RowKit

theorem refused_of {r : Int} {b : Bool} {o : Int} (h : r = 0 ∨ r = 130) (k : r = 130 ↔ b = true ∧ o ≠ 0) : (b = true → o ≠ 0 → r = 130) ∧ (b = false ∨ o = 0 → r = 0) := by
  refine ⟨fun h1 h2 => k.2 ⟨h1, h2⟩, fun h1 => ?_⟩
  rcases h with h | h
  · exact h
  · obtain ⟨h2, h3⟩ := k.1 h
    rcases h1 with h1 | h1
    · rw [h1] at h2; cases h2
    · exact absurd h1 h3
set_option maxRecDepth 100000 in
set_option maxHeartbeats 8000000 in
theorem lawLimits_any (g : Gt) (p : GtP) (s : St) (t : Sp) (w : World) (hok : GtOk w p g) :
    Calls Try.prog 6 #[.agg (gtL g p).toArray, .agg #[.int .i64 s.pos, .int .i64 s.charge, .bool s.bolted], .agg #[.int .i64 t.order, .bool t.power, .int .i64 t.outer, .int .i64 t.inner]] w fun e w' => e = .returned (.bool true) ∧ Below w.heap.size w w' := by
  have HOk := hid hok
  clear hok
  have H0 := hid (LwW.start w g p s t)
  have R1 := H0.out.rows
  have s0 := range_cell H0.out.ss (show (stL s)[0]? = some (.int .i64 s.pos) from rfl)
  have s1 := range_cell H0.out.ss (show (stL s)[1]? = some (.int .i64 s.charge) from rfl)
  have s2 := range_cell H0.out.ss (show (stL s)[2]? = some (.bool s.bolted) from rfl)
  have t0 := range_cell H0.out.ts (show (spL t)[0]? = some (.int .i64 t.order) from rfl)
  have t1 := range_cell H0.out.ts (show (spL t)[1]? = some (.bool t.power) from rfl)
  have t2 := range_cell H0.out.ts (show (spL t)[2]? = some (.int .i64 t.outer) from rfl)
  have t3 := range_cell H0.out.ts (show (spL t)[3]? = some (.int .i64 t.inner) from rfl)
  have HS := hid (fun W (hW : GtOk W p g) => stepFn_any g p s t W hW)
  rcases stepP_two g s t with ⟨x, hx, hE⟩ | ⟨hg0, hs0, hE⟩
  · rw [hE] at HS
    dsimp only at HS
    have q : (x != 0) = true := by simp [hx]
    clear hE hx
    go_enter Try.func6, Try.ntmps6
    go_wp2_with (refine wpList_load_mid rfl 33 _ rfl _ 0 rfl (gtL g p) _ (R1) Try.underlying33 rfl (by kernel_rfl) ?_)
    refine (HS.out _ (HOk.out.later H0.out.below (Nat.le_refl _))).mono ?_
    rintro e w1 ⟨rfl, hb⟩
    have H1 := hid (H0.out.later hb)
    have l1 := H1.out.lt
    have l1a : w.heap.size < w1.heap.size := by omega
    have l1b : w.heap.size + 1 < w1.heap.size := by omega
    clear s0 s1 s2 t0 t1 t2 t3 hb R1
    have BF := H1.out.below.trans ((((Below.refl w1.heap.size w1).alloc (Nat.le_refl _) (.cells #[.int .i64 0, .int .i64 0, .bool false] 44)).alloc (by simp) (.cells #[.int .i64 0, .int .i64 0, .int .i64 0] 46)).mono H1.out.below.size)
    go_wp2_with fail
    refine (awake_any _).mono ?_
    rintro e w9 ⟨rfl, hb9⟩
    go_wp2_with fail
    go_ret
    exact ⟨rfl, bthen BF hb9⟩
  · have hg := gtGood hg0
    obtain ⟨hs, ht⟩ := spGoods hs0
    rw [hE] at HS
    dsimp only at HS
    have hgd := step_good hg hs t 0
    obtain ⟨⟨a1, a2, a3⟩, ⟨a4, a5, a6⟩, a7, a8, a9, a10, a11⟩ := step_lim hg hs t
    have b1 := hg.speed; have b2 := hg.gravity; have b3 := hg.travel; have b4 := hg.cap; have b5 := hg.pump; have b6 := hg.use
    have c1 := hgd.pos; have c2 := hgd.charge; have c3 := hs.pos; have c4 := hs.charge; have c5 := ht.order
    have HR := refused_of a10 a11
    clear hE hg0 hs0 hg hs ht hgd a10 a11
    generalize stepF g s t 0 = u at *
    obtain ⟨us, ur, um, uo⟩ := u
    dsimp only at *
    have f1 : decide (us.pos < 0) = false := by simp; omega
    have f2 : decide (g.travel < us.pos) = false := by simp; omega
    have f3 : decide (us.charge < 0) = false := by simp; omega
    have f4 : decide (g.cap < us.charge) = false := by simp; omega
    have v1 : IntKind.i64.wrap (s.pos + um) = s.pos + um := IntWalk.i64_in _ (by omega)
    have f5 : (us.pos != s.pos + um) = false := by simp [a1]
    have f6 : decide (max g.speed g.gravity < max um (-um)) = false := by simp only [decide_eq_false_iff_not]; omega
    have f7 : (us.bolted != s.bolted) = false := by simp [a2]
    have f8 : (!(us.bolted == s.bolted)) = false := by simp [a2]
    have g1 : decide (uo < 0) = false := by simp; omega
    have g2 : decide (s.charge < uo) = false := by simp; omega
    have v2 : IntKind.i64.wrap (s.charge - uo) = s.charge - uo := IntWalk.i64_in _ (by omega)
    have v3 : IntKind.i64.wrap (s.charge - uo + g.pump) = s.charge - uo + g.pump := IntWalk.i64_in _ (by omega)
    have HLs := hid (fun W => lsize_any um W (by omega))
    have A1 := hid c5; have A6 := hid a6; have A7 := hid a7; have A8 := hid a8; have A9 := hid a9; have HRr := hid HR
    have hsz : 0 ≤ max um (-um) ∧ max um (-um) ≤ 100 := by omega
    have hmu : 0 ≤ max um (-um) * g.use ∧ max um (-um) * g.use ≤ 100 * 100000 := ⟨Int.mul_nonneg hsz.1 b6.1, Int.mul_le_mul hsz.2 b6.2 b6.1 (by decide)⟩
    have A2 := hid hmu
    clear HR a1 a2 a3 a4 a5 a6 a7 a8 a9 b1 b2 b3 b4 b5 b6 c1 c2 c3 c4 c5 hsz hmu
    go_enter Try.func6, Try.ntmps6
    go_wp2_with (refine wpList_load_mid rfl 33 _ rfl _ 0 rfl (gtL g p) _ (R1) Try.underlying33 rfl (by kernel_rfl) ?_)
    refine (HS.out _ (HOk.out.later H0.out.below (Nat.le_refl _))).mono ?_
    rintro e w1 ⟨rfl, hb⟩
    have H1 := hid (H0.out.later hb)
    have l1 := H1.out.lt
    have l1a : w.heap.size < w1.heap.size := by omega
    have l1b : w.heap.size + 1 < w1.heap.size := by omega
    clear s0 s1 s2 t0 t1 t2 t3 hb R1
    have s0 := range_cell H1.out.ss (show (stL s)[0]? = some (.int .i64 s.pos) from rfl)
    have s1 := range_cell H1.out.ss (show (stL s)[1]? = some (.int .i64 s.charge) from rfl)
    have s2 := range_cell H1.out.ss (show (stL s)[2]? = some (.bool s.bolted) from rfl)
    have t0 := range_cell H1.out.ts (show (spL t)[0]? = some (.int .i64 t.order) from rfl)
    have t1 := range_cell H1.out.ts (show (spL t)[1]? = some (.bool t.power) from rfl)
    have t2 := range_cell H1.out.ts (show (spL t)[2]? = some (.int .i64 t.outer) from rfl)
    have t3 := range_cell H1.out.ts (show (spL t)[3]? = some (.int .i64 t.inner) from rfl)
    have k2 := range_cell H1.out.rows (show (gtL g p)[2]? = some (.int .i64 g.travel) from rfl)
    have k13 := range_cell H1.out.rows (show (gtL g p)[13]? = some (.int .i64 g.speed) from rfl)
    have k14 := range_cell H1.out.rows (show (gtL g p)[14]? = some (.int .i64 g.gravity) from rfl)
    have k15 := range_cell H1.out.rows (show (gtL g p)[15]? = some (.int .i64 g.use) from rfl)
    have k16 := range_cell H1.out.rows (show (gtL g p)[16]? = some (.int .i64 g.pump) from rfl)
    have k17 := range_cell H1.out.rows (show (gtL g p)[17]? = some (.int .i64 g.cap) from rfl)
    have LB := hid (lthen l1 (((Below.refl w1.heap.size w1).alloc (Nat.le_refl _) (.cells #[.int .i64 us.pos, .int .i64 us.charge, .bool us.bolted] 44)).alloc (by simp) (.cells #[.int .i64 ur, .int .i64 um, .int .i64 uo] 46)))
    have BF := H1.out.below.trans ((((Below.refl w1.heap.size w1).alloc (Nat.le_refl _) (.cells #[.int .i64 us.pos, .int .i64 us.charge, .bool us.bolted] 44)).alloc (by simp) (.cells #[.int .i64 ur, .int .i64 um, .int .i64 uo] 46)).mono H1.out.below.size)
    go_wp2_with fail
    go_quiet ((go_at_call 32; exact Calls.quiet_of_same' (HLs.out _)))
    obtain ⟨ru, rm, lV, b1V⟩ := two_boxes (cs := [.int .i64 us.pos, .int .i64 us.charge, .bool us.bolted]) (ds := [.int .i64 ur, .int .i64 um, .int .i64 uo]) (T := 44) (S := 46) (below_drewN (Below.refl ((w1.alloc (.cells #[.int .i64 us.pos, .int .i64 us.charge, .bool us.bolted] 44)).alloc (.cells #[.int .i64 ur, .int .i64 um, .int .i64 uo] 46)).heap.size _) nq)
    have HV := hid (H1.out.later b1V)
    clear s0 s1 s2 t0 t1 t2 t3 k2 k13 k14 k15 k16 k17 BF LB H1 b1V
    generalize World.drewN _ _ = V at *
    have s0 := range_cell HV.out.ss (show (stL s)[0]? = some (.int .i64 s.pos) from rfl)
    have s1 := range_cell HV.out.ss (show (stL s)[1]? = some (.int .i64 s.charge) from rfl)
    have s2 := range_cell HV.out.ss (show (stL s)[2]? = some (.bool s.bolted) from rfl)
    have t0 := range_cell HV.out.ts (show (spL t)[0]? = some (.int .i64 t.order) from rfl)
    have t1 := range_cell HV.out.ts (show (spL t)[1]? = some (.bool t.power) from rfl)
    have t2 := range_cell HV.out.ts (show (spL t)[2]? = some (.int .i64 t.outer) from rfl)
    have t3 := range_cell HV.out.ts (show (spL t)[3]? = some (.int .i64 t.inner) from rfl)
    have k2 := range_cell HV.out.rows (show (gtL g p)[2]? = some (.int .i64 g.travel) from rfl)
    have k13 := range_cell HV.out.rows (show (gtL g p)[13]? = some (.int .i64 g.speed) from rfl)
    have k14 := range_cell HV.out.rows (show (gtL g p)[14]? = some (.int .i64 g.gravity) from rfl)
    have k15 := range_cell HV.out.rows (show (gtL g p)[15]? = some (.int .i64 g.use) from rfl)
    have k16 := range_cell HV.out.rows (show (gtL g p)[16]? = some (.int .i64 g.pump) from rfl)
    have k17 := range_cell HV.out.rows (show (gtL g p)[17]? = some (.int .i64 g.cap) from rfl)
    have u1 := range_cell ru (show [_, _, _][1]? = some (.int .i64 us.charge) from rfl)
    have m0 := range_cell rm (show [_, _, _][0]? = some (.int .i64 ur) from rfl)
    have m1 := range_cell rm (show [_, _, _][1]? = some (.int .i64 um) from rfl)
    have m2 := range_cell rm (show [_, _, _][2]? = some (.int .i64 uo) from rfl)
    have BF := HV.out.below
    have lV0 := HV.out.lt
    clear ru rm
    rcases hpw : t.power with _ | _
    · have e : uo = 0 := by
        by_cases h : 0 < uo
        · have := (A7.out h).1; rw [hpw] at this; cases this
        · have := g1; simp at this; omega
      have g3 : (us.charge != min (s.charge - uo) g.cap) = false := by rw [A6.out, hpw]; simp
      have g4 : decide (0 < uo) = false := by simp [e]
      clear e
      clear A7
      go_wp2_with fail
      clear f1 f2 f3 f4 f5 f6 f7 f8 v1
      go_quiet ((go_at_call 32; exact Calls.quiet_of_same' (HLs.out _)))
      replace BF := below_drewN BF nq
      rcases (show t.order = 0 ∨ t.order = 1 ∨ t.order = 2 by have := A1.out; omega) with ho | ho | ho
      · have d1 : (t.order == 1) = false := by simp [ho]
        have d2 : (t.order == 2) = false := by simp [ho]
        have d0 : (t.order != 0) = false := by simp [ho]
        rcases hbo : s.bolted with _ | _
        · have er : ur = 0 := HRr.out.2 (.inl hbo)
          subst er
          clear A1 A2 A6 A8 A9 HRr ho
          go_wp2_with fail
          refine (awake_any _).mono ?_
          rintro e w9 ⟨rfl, hb9⟩
          go_wp2_with fail
          go_ret
          exact ⟨rfl, bthen BF hb9⟩
        · have er : ur = 0 := HRr.out.2 (.inr ho)
          subst er
          clear A1 A2 A6 A8 A9 HRr ho
          go_wp2_with fail
          refine (awake_any _).mono ?_
          rintro e w9 ⟨rfl, hb9⟩
          go_wp2_with fail
          go_ret
          exact ⟨rfl, bthen BF hb9⟩
      · have d1 : (t.order == 1) = true := by simp [ho]
        have d2 : (t.order == 2) = false := by simp [ho]
        have d0 : (t.order != 0) = true := by simp [ho]
        have d3 : decide (um < 0) = false := by have := A8.out ho; simp; omega
        rcases hbo : s.bolted with _ | _
        · have er : ur = 0 := HRr.out.2 (.inl hbo)
          subst er
          clear A1 A2 A6 A8 A9 HRr ho
          go_wp2_with fail
          refine (awake_any _).mono ?_
          rintro e w9 ⟨rfl, hb9⟩
          go_wp2_with fail
          go_ret
          exact ⟨rfl, bthen BF hb9⟩
        · have er : ur = 130 := HRr.out.1 hbo (by omega)
          subst er
          clear A1 A2 A6 A8 A9 HRr ho
          go_wp2_with fail
          refine (awake_any _).mono ?_
          rintro e w9 ⟨rfl, hb9⟩
          go_wp2_with fail
          go_ret
          exact ⟨rfl, bthen BF hb9⟩
      · have d1 : (t.order == 1) = false := by simp [ho]
        have d2 : (t.order == 2) = true := by simp [ho]
        have d0 : (t.order != 0) = true := by simp [ho]
        have d3 : decide (0 < um) = false := by have := A9.out ho; simp; omega
        rcases hbo : s.bolted with _ | _
        · have er : ur = 0 := HRr.out.2 (.inl hbo)
          subst er
          clear A1 A2 A6 A8 A9 HRr ho
          go_wp2_with fail
          refine (awake_any _).mono ?_
          rintro e w9 ⟨rfl, hb9⟩
          go_wp2_with fail
          go_ret
          exact ⟨rfl, bthen BF hb9⟩
        · have er : ur = 130 := HRr.out.1 hbo (by omega)
          subst er
          clear A1 A2 A6 A8 A9 HRr ho
          go_wp2_with fail
          refine (awake_any _).mono ?_
          rintro e w9 ⟨rfl, hb9⟩
          go_wp2_with fail
          go_ret
          exact ⟨rfl, bthen BF hb9⟩
    · have g3 : (us.charge != min (s.charge - uo + g.pump) g.cap) = false := by rw [A6.out, hpw]; simp
      by_cases ho : 0 < uo
      · obtain ⟨-, o1, o2, o3⟩ := A7.out ho
        have g4 : decide (0 < uo) = true := by simp [ho]
        have g5 : (t.order == 0) = false := by simp [o1]
        have g6 : decide (g.speed < max um (-um)) = false := by simp only [decide_eq_false_iff_not]; omega
        have hmu := A2.out
        have v4 : IntKind.i64.wrap (max um (-um) * g.use) = max um (-um) * g.use := IntWalk.i64_in _ (by omega)
        have v5 : IntKind.i64.wrap (max um (-um) * g.use + 99) = max um (-um) * g.use + 99 := IntWalk.i64_in _ (by omega)
        have v6 : (max um (-um) * g.use + 99).tdiv 100 = uo := by rw [Int.tdiv_eq_ediv_of_nonneg (by omega)]; exact o3.symm
        have g7 : (uo != uo) = false := by simp
        have v7 : IntKind.i64.wrap uo = uo := IntWalk.i64_in _ (by have := g1; have := g2; have := A2.out; simp at *; omega)
        clear A7 o1 o2 o3 ho hmu
        go_wp2_with fail
        clear f1 f2 f3 f4 f5 f6 f7 f8 v1
        go_quiet ((go_at_call 32; exact Calls.quiet_of_same' (HLs.out _)))
        replace BF := below_drewN BF nq
        rcases (show t.order = 0 ∨ t.order = 1 ∨ t.order = 2 by have := A1.out; omega) with ho | ho | ho
        · have d1 : (t.order == 1) = false := by simp [ho]
          have d2 : (t.order == 2) = false := by simp [ho]
          have d0 : (t.order != 0) = false := by simp [ho]
          rcases hbo : s.bolted with _ | _
          · have er : ur = 0 := HRr.out.2 (.inl hbo)
            subst er
            clear A1 A2 A6 A8 A9 HRr ho
            go_wp2_with fail
            refine (awake_any _).mono ?_
            rintro e w9 ⟨rfl, hb9⟩
            go_wp2_with fail
            go_ret
            exact ⟨rfl, bthen BF hb9⟩
          · have er : ur = 0 := HRr.out.2 (.inr ho)
            subst er
            clear A1 A2 A6 A8 A9 HRr ho
            go_wp2_with fail
            refine (awake_any _).mono ?_
            rintro e w9 ⟨rfl, hb9⟩
            go_wp2_with fail
            go_ret
            exact ⟨rfl, bthen BF hb9⟩
        · have d1 : (t.order == 1) = true := by simp [ho]
          have d2 : (t.order == 2) = false := by simp [ho]
          have d0 : (t.order != 0) = true := by simp [ho]
          have d3 : decide (um < 0) = false := by have := A8.out ho; simp; omega
          rcases hbo : s.bolted with _ | _
          · have er : ur = 0 := HRr.out.2 (.inl hbo)
            subst er
            clear A1 A2 A6 A8 A9 HRr ho
            go_wp2_with fail
            refine (awake_any _).mono ?_
            rintro e w9 ⟨rfl, hb9⟩
            go_wp2_with fail
            go_ret
            exact ⟨rfl, bthen BF hb9⟩
          · have er : ur = 130 := HRr.out.1 hbo (by omega)
            subst er
            clear A1 A2 A6 A8 A9 HRr ho
            go_wp2_with fail
            refine (awake_any _).mono ?_
            rintro e w9 ⟨rfl, hb9⟩
            go_wp2_with fail
            go_ret
            exact ⟨rfl, bthen BF hb9⟩
        · have d1 : (t.order == 1) = false := by simp [ho]
          have d2 : (t.order == 2) = true := by simp [ho]
          have d0 : (t.order != 0) = true := by simp [ho]
          have d3 : decide (0 < um) = false := by have := A9.out ho; simp; omega
          rcases hbo : s.bolted with _ | _
          · have er : ur = 0 := HRr.out.2 (.inl hbo)
            subst er
            clear A1 A2 A6 A8 A9 HRr ho
            go_wp2_with fail
            refine (awake_any _).mono ?_
            rintro e w9 ⟨rfl, hb9⟩
            go_wp2_with fail
            go_ret
            exact ⟨rfl, bthen BF hb9⟩
          · have er : ur = 130 := HRr.out.1 hbo (by omega)
            subst er
            clear A1 A2 A6 A8 A9 HRr ho
            go_wp2_with fail
            refine (awake_any _).mono ?_
            rintro e w9 ⟨rfl, hb9⟩
            go_wp2_with fail
            go_ret
            exact ⟨rfl, bthen BF hb9⟩
      · have g4 : decide (0 < uo) = false := by simp; omega
        clear A7 ho
        go_wp2_with fail
        clear f1 f2 f3 f4 f5 f6 f7 f8 v1
        go_quiet ((go_at_call 32; exact Calls.quiet_of_same' (HLs.out _)))
        replace BF := below_drewN BF nq
        rcases (show t.order = 0 ∨ t.order = 1 ∨ t.order = 2 by have := A1.out; omega) with ho | ho | ho
        · have d1 : (t.order == 1) = false := by simp [ho]
          have d2 : (t.order == 2) = false := by simp [ho]
          have d0 : (t.order != 0) = false := by simp [ho]
          rcases hbo : s.bolted with _ | _
          · have er : ur = 0 := HRr.out.2 (.inl hbo)
            subst er
            clear A1 A2 A6 A8 A9 HRr ho
            go_wp2_with fail
            refine (awake_any _).mono ?_
            rintro e w9 ⟨rfl, hb9⟩
            go_wp2_with fail
            go_ret
            exact ⟨rfl, bthen BF hb9⟩
          · have er : ur = 0 := HRr.out.2 (.inr ho)
            subst er
            clear A1 A2 A6 A8 A9 HRr ho
            go_wp2_with fail
            refine (awake_any _).mono ?_
            rintro e w9 ⟨rfl, hb9⟩
            go_wp2_with fail
            go_ret
            exact ⟨rfl, bthen BF hb9⟩
        · have d1 : (t.order == 1) = true := by simp [ho]
          have d2 : (t.order == 2) = false := by simp [ho]
          have d0 : (t.order != 0) = true := by simp [ho]
          have d3 : decide (um < 0) = false := by have := A8.out ho; simp; omega
          rcases hbo : s.bolted with _ | _
          · have er : ur = 0 := HRr.out.2 (.inl hbo)
            subst er
            clear A1 A2 A6 A8 A9 HRr ho
            go_wp2_with fail
            refine (awake_any _).mono ?_
            rintro e w9 ⟨rfl, hb9⟩
            go_wp2_with fail
            go_ret
            exact ⟨rfl, bthen BF hb9⟩
          · have er : ur = 130 := HRr.out.1 hbo (by omega)
            subst er
            clear A1 A2 A6 A8 A9 HRr ho
            go_wp2_with fail
            refine (awake_any _).mono ?_
            rintro e w9 ⟨rfl, hb9⟩
            go_wp2_with fail
            go_ret
            exact ⟨rfl, bthen BF hb9⟩
        · have d1 : (t.order == 1) = false := by simp [ho]
          have d2 : (t.order == 2) = true := by simp [ho]
          have d0 : (t.order != 0) = true := by simp [ho]
          have d3 : decide (0 < um) = false := by have := A9.out ho; simp; omega
          rcases hbo : s.bolted with _ | _
          · have er : ur = 0 := HRr.out.2 (.inl hbo)
            subst er
            clear A1 A2 A6 A8 A9 HRr ho
            go_wp2_with fail
            refine (awake_any _).mono ?_
            rintro e w9 ⟨rfl, hb9⟩
            go_wp2_with fail
            go_ret
            exact ⟨rfl, bthen BF hb9⟩
          · have er : ur = 130 := HRr.out.1 hbo (by omega)
            subst er
            clear A1 A2 A6 A8 A9 HRr ho
            go_wp2_with fail
            refine (awake_any _).mono ?_
            rintro e w9 ⟨rfl, hb9⟩
            go_wp2_with fail
            go_ret
            exact ⟨rfl, bthen BF hb9⟩
end Go.Proofs.Ytpgggffcpcjahaa
