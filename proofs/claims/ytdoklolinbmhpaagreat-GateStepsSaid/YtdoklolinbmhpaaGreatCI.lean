/- Gate, part CH: the reference's used, driven and moved. -/
import Derived.Test.YtdoklolinbmhpaaGreatCE
import Derived.Test.YtdoklolinbmhpaaGreatCM
import Derived.Test.YtdoklolinbmhpaaGreatLA
import Derived.Deep.Cut
set_option linter.all false
namespace Go.Proofs.YtdoklolinbmhpaaGreat
open Go.RowKit

set_option maxRecDepth 100000 in
set_option maxHeartbeats 1000000 in
theorem rused_any (g : Gt) (p : GtP) (d : Int) (w : World) (hd : 0 ≤ d ∧ d ≤ 5000) (hu : 0 ≤ g.use ∧ g.use ≤ 100000) :
    Calls Tryz.prog 106 #[.agg (gtL g p).toArray, .int .i64 d] w fun e w' => e = .returned (.int .i64 (usedN g d)) ∧ Below w.heap.size w w' := by
  have R := range_alloc w (gtL g p) 25
  have B1 : Below w.heap.size w (w.alloc (.cells (gtL g p).toArray 25)) := (Below.refl _ _).alloc (Nat.le_refl _) _
  have c15 := range_cell R (show (gtL g p)[15]? = some (.int .i64 g.use) from rfl)
  have hm := Int.mul_nonneg hd.1 hu.1
  have hm2 := mul_bd (a := d) (b := g.use) (A := 5000) (B := 100000) (by omega) (by omega) (by omega) (by omega)
  have HE := hid (show usedN g d = (d * g.use + 99) / 100 from rfl)
  obtain ⟨N, hN⟩ : ∃ N, d * g.use = N := ⟨_, rfl⟩
  rw [hN] at hm hm2 HE
  have v1 : IntKind.i64.wrap (d * g.use) = N := by rw [hN]; exact IntWalk.i64_in _ (by omega)
  have v2 : IntKind.i64.wrap (N + 99) = N + 99 := IntWalk.i64_in _ (by omega)
  have v3 : (N + 99).tdiv 100 = usedN g d := by rw [HE.out, tdiv_ediv (by omega)]
  have v4 : IntKind.i64.wrap (usedN g d) = usedN g d := IntWalk.i64_in _ (by rw [HE.out]; omega)
  generalize usedN g d = u at *
  clear hN hm hm2 R hd hu
  go_enter Tryz.func106, Tryz.ntmps106
  go_wp2_with fail
  go_ret
  exact ⟨rfl, B1⟩
/-- A gate and its state in memory. -/
structure DrW (w : World) (g : Gt) (p : GtP) (s : St) (x : World) : Prop where
  below : Below w.heap.size w x
  lt : w.heap.size + 1 < x.heap.size
  rows : x.rangeAt w.heap.size 0 (gtL g p)
  ss : x.rangeAt (w.heap.size + 1) 0 (stL s)
theorem DrW.later {w x y : World} {g : Gt} {p : GtP} {s : St} (h : DrW w g p s x) (hb : Below x.heap.size x y) : DrW w g p s y := by
  have hl := h.lt
  exact ⟨bthen h.below hb, Nat.lt_of_lt_of_le hl hb.size, range_later h.rows hb (by omega), range_later h.ss hb (by omega)⟩
theorem DrW.drew {w x : World} {g : Gt} {p : GtP} {s : St} (h : DrW w g p s x) : DrW w g p s x.drew :=
  ⟨h.below.drew, by simpa using h.lt, fun j v hv => by simpa using h.rows j v hv, fun j v hv => by simpa using h.ss j v hv⟩
theorem DrW.start (w : World) (g : Gt) (p : GtP) (s : St) : DrW w g p s ((w.alloc (.cells (gtL g p).toArray 25)).alloc (.cells #[.int .i64 s.pos, .int .i64 s.charge, .bool s.bolted] 27)) := by
  obtain ⟨h1, h2, h3, h4⟩ := two_boxes (w := w) (cs := gtL g p) (ds := stL s) (T := 25) (S := 27) (Below.refl _ _)
  exact ⟨h4, h3, h1, h2⟩
theorem keepDr {w x y : World} {g : Gt} {p : GtP} {s : St} (hb : Below x.heap.size x y) (h : DrW w g p s x ∧ x.cell? ⟨w.heap.size + 1, 1, none⟩ = some (.int .i64 s.charge)) : DrW w g p s y ∧ y.cell? ⟨w.heap.size + 1, 1, none⟩ = some (.int .i64 s.charge) :=
  ⟨h.1.later hb, (hb.cell (p := ⟨w.heap.size + 1, 1, none⟩) h.1.lt).trans h.2⟩
set_option maxRecDepth 100000 in
set_option maxHeartbeats 4000000 in
theorem rdriven_any (g : Gt) (p : GtP) (s : St) (left : Int) (w : World) (hg : GtGood g) (hs : StGood g s) (hl : 0 ≤ left ∧ left ≤ 5000) :
    Calls Tryz.prog 105 #[.agg (gtL g p).toArray, .agg #[.int .i64 s.pos, .int .i64 s.charge, .bool s.bolted], .int .i64 left] w fun e w' => e = .returned (.int .i64 (drivenF g s.charge (min g.speed left)).1) ∧ Below w.heap.size w w' := by
  have hsp := hg.speed
  have hch := hs.charge
  have hcp := hg.cap
  obtain ⟨⟨m0, m1⟩, m2, m3, -⟩ := rdriven_math hg (charge := s.charge) (cm := min g.speed left) (by omega) (by omega)
  have HU := hid (fun d W (hd : 0 ≤ d ∧ d ≤ 5000) => rused_any g p d W hd hg.use)
  generalize (drivenF g s.charge (min g.speed left)).1 = c at *
  have HM2 := hid m2
  have HM3 := hid m3
  have HD0 := hid (DrW.start w g p s)
  have c13 := range_cell HD0.out.rows (show (gtL g p)[13]? = some (.int .i64 g.speed) from rfl)
  obtain ⟨cm, hcm⟩ : ∃ cm, min g.speed left = cm := ⟨_, rfl⟩
  rw [hcm] at m1 HM3
  have hcm5 : cm ≤ 5000 := by omega
  have HCm := hid hcm
  clear m2 m3 hcm hg hs hch hcp hsp hl
  go_enter Tryz.func105, Tryz.ntmps105
  go_wp2_with fail
  go_loopw [7] (fun dv wr => ∃ d : Int, c ≤ d ∧ d ≤ cm ∧ dv = .int .i64 d ∧ Hid (DrW w g p s wr)) (fun dv _ => (intOf dv).toNat)
  case atStart => exact ⟨cm, m1, Int.le_refl _, by rw [← HCm.out], HD0⟩
  case round =>
    obtain ⟨d, hd1, hd2, rfl, HD⟩ := hrel
    have cc := range_cell HD.out.ss (show (stL s)[1]? = some (.int .i64 s.charge) from rfl)
    have HUd := hid (fun W => HU.out d W ⟨by omega, by omega⟩)
    have vd : IntKind.i64.wrap (d - 1) = d - 1 := IntWalk.i64_in _ (by omega)
    have HX := hid (fun (h : c < d) => HM3.out d h hd2)
    have HY := hid (fun (h : d = c) => show usedN g d ≤ s.charge from h ▸ HM2.out)
    generalize usedN g d = u at *
    clear c13
    go_wp2_with fail
    refine wp_region_noPanic ?_
    refine wp_region_held_drew (S := (fun w' => DrW w g p s w' ∧ w'.cell? ⟨w.heap.size + 1, 1, none⟩ = some (.int .i64 s.charge))) (by kernel_rfl) ?_ (fun hHeld => ?_)
    · exact ⟨HD.out.drew, by simpa using cc⟩
    refine wpAnyH_take (i := 0) (oi := { dst := _, op := _, type := _, pos := _, after := _, guard := _ }) (v := .agg (gtL g p).toArray) rfl (by kernel_rfl) (by kernel_rfl) (by kernel_rfl) (fun _ _ _ h => h) (yieldsIf_load_mid (by rfl) 25 _ rfl w.heap.size 0 rfl (gtL g p) _ (fun _ hS => hS.1.rows) Tryz.underlying25 rfl (by kernel_rfl)) (by assumption) ?_
    try simp only [Act.put, List.setIfInBounds_toArray, List.set_cons_zero, List.set_cons_succ]
    refine wpAnyH_take (i := 1) (oi := { dst := _, op := _, type := _, pos := _, after := _, guard := _ }) (v := ?_) rfl (by kernel_rfl) (by kernel_rfl) (by kernel_rfl) (fun _ _ _ h => h) (Or.inl ⟨by rfl, ?_⟩) (by assumption) ?_
    rotate_left
    · intro wS hSw; (try dsimp only at hSw); go_simp; try (with_reducible rfl)
    try simp only [Act.put, List.setIfInBounds_toArray, List.set_cons_zero, List.set_cons_succ]
    refine wpAnyH_take (i := 3) (oi := { dst := _, op := _, type := _, pos := _, after := _, guard := _ }) (v := ?_) rfl (by kernel_rfl) (by kernel_rfl) (by kernel_rfl) (fun _ _ _ h => h) (Or.inl ⟨by rfl, ?_⟩) (by assumption) ?_
    rotate_left
    · intro wS hSw; (try dsimp only at hSw); go_simp; try (with_reducible rfl)
    try simp only [Act.put, List.setIfInBounds_toArray, List.set_cons_zero, List.set_cons_succ]
    refine wpAnyH_take (i := 4) (oi := { dst := _, op := _, type := _, pos := _, after := _, guard := _ }) (v := ?_) rfl (by kernel_rfl) (by kernel_rfl) (by kernel_rfl) (fun _ _ _ h => h) (Or.inl ⟨by rfl, ?_⟩) (by assumption) ?_
    rotate_left
    · intro wS hSw; (try dsimp only at hSw); go_simp; try (with_reducible rfl)
    try simp only [Act.put, List.setIfInBounds_toArray, List.set_cons_zero, List.set_cons_succ]
    refine wpAnyH_ready (rs := [2]) (by kernel_rfl) (by simp) ?_
    refine AllReadyH.cons (o := { dst := _, op := _, type := _, pos := _, after := _, guard := _ }) rfl (fun K hK => ?_) AllReadyH.nil
    go_simp
    (go_at_call 106; (with_reducible refine (HUd.out _).mono ?_); rintro e w' ⟨rfl, hbe⟩)
    try go_wp2_with fail
    refine hK.out _ _ ?_ (fun hHeld => ?_)
    · (try dsimp only); first | assumption | exact keepDr (by assumption) (by assumption)
    clear hK K
    try simp only [Act.put, List.setIfInBounds_toArray, List.set_cons_zero, List.set_cons_succ]
    refine wpAnyH_take (i := 5) (oi := { dst := _, op := _, type := _, pos := _, after := _, guard := _ }) (v := ?_) rfl (by kernel_rfl) (by kernel_rfl) (by kernel_rfl) (fun _ _ _ h => h) (Or.inl ⟨by rfl, ?_⟩) (by assumption) ?_
    rotate_left
    · intro wS hSw; (try dsimp only at hSw); go_simp; try (with_reducible rfl)
    try simp only [Act.put, List.setIfInBounds_toArray, List.set_cons_zero, List.set_cons_succ]
    refine wpAnyH_done (by kernel_rfl) ?_ _
    refine NoPanic.normal ?_
    have hS := (by assumption : DrW w g p s _ ∧ _)
    by_cases hcd : c < d
    · have q0 : s.charge < u := HX.out hcd
      have q : decide (s.charge < u) = true := by simp [q0]
      have HW := hid hS.1
      clear hS cc HD
      go_wp2_with fail
      exact ⟨⟨d - 1, by omega, by omega, rfl, HW⟩, by simp [intOf]; omega⟩
    · obtain rfl : d = c := by omega
      have q0 : u ≤ s.charge := HY.out rfl
      have q : decide (s.charge < u) = false := by simp; omega
      have BF := hS.1.below
      clear hS cc HD
      go_wp2_with fail
      go_ret
      exact ⟨rfl, BF⟩
end Go.Proofs.YtdoklolinbmhpaaGreat

set_option linter.all false
namespace Go.Proofs.YtdoklolinbmhpaaGreat
open Go.RowKit

theorem LwW.drew {w x : World} {g : Gt} {p : GtP} {s : St} {t : Sp} (h : LwW w g p s t x) : LwW w g p s t x.drew :=
  ⟨h.below.drew, by simpa using h.lt, fun j v hv => by simpa using h.rows j v hv, fun j v hv => by simpa using h.ss j v hv, fun j v hv => by simpa using h.ts j v hv⟩
theorem LwW.drewN {w x : World} {g : Gt} {p : GtP} {s : St} {t : Sp} (h : LwW w g p s t x) (n : Nat) : LwW w g p s t (x.drewN n) :=
  ⟨below_drewN h.below n, by simpa using h.lt, fun j v hv => by simpa using h.rows j v hv, fun j v hv => by simpa using h.ss j v hv, fun j v hv => by simpa using h.ts j v hv⟩
set_option maxRecDepth 100000 in
set_option maxHeartbeats 8000000 in
theorem rmoved_any (g : Gt) (p : GtP) (s : St) (t : Sp) (w : World) (hg : GtGood g) (hs : StGood g s) (ht : SpGood t) (hat : IntsAt w p.oa g.own) :
    Calls Tryz.prog 71 #[.agg (gtL g p).toArray, .agg #[.int .i64 s.pos, .int .i64 s.charge, .bool s.bolted], .agg #[.int .i64 t.order, .bool t.power, .int .i64 t.outer, .int .i64 t.inner]] w fun e w' => e = .returned (.tuple #[.int .i64 (actF g s t).1, .int .i64 (actF g s t).2]) ∧ Below w.heap.size w w' := by
  have HFo := hid (fun W (hW : Below w.heap.size w W) => rforces_any g p s.pos t.outer t.inner W hg hs.pos ht.outer ht.inner (hat.later hW (Nat.le_refl _)))
  have HDr := hid (fun left W (hl : 0 ≤ left ∧ left ≤ 5000) => rdriven_any g p s left W hg hs hl)
  have HUs := hid (fun d W (hd : 0 ≤ d ∧ d ≤ 5000) => rused_any g p d W hd hg.use)
  have HMa := hid (fun left (hl : 0 ≤ left ∧ left ≤ 5000) => rdriven_math hg (charge := s.charge) (cm := min g.speed left) (by have := hs.charge; have := hg.cap; omega) (by have := hg.speed; omega))
  have HHn := hid (fun hb ho hn => held_neg hg hs ht hb ho hn)
  have HHp := hid (fun hb ho hn => held_pos hg hs ht hb ho hn)
  have HAc := hid (fun hb ho => act_close (g := g) (s := s) (t := t) hb ho)
  have HAo := hid (fun hb ho => act_open (g := g) (s := s) (t := t) hb ho)
  have HAb := hid (fun hb => act_bolted (g := g) (s := s) (t := t) hb)
  have HFw := hid (fun force left => show followF g s t force left = if frictF g s.pos t.outer t.inner < force then (min g.gravity left, 0) else if t.power = true ∧ frictF g s.pos t.outer t.inner < force + g.drive then drivenF g s.charge (min g.speed left) else (0, 0) from rfl)
  have hcb := close_bd hg hs.pos ht.outer ht.inner
  have hfb := frict_bd (pos := s.pos) hg ht.outer ht.inner
  have htv := hg.travel; have hpo := hs.pos; have hgr := hg.gravity; have hbr := hg.brake; have hdv := hg.drive; have hspd := hg.speed; have hor := ht.order
  have H0 := hid (LwW.start w g p s t)
  clear hg hs ht hat
  generalize closeF g s.pos t.outer t.inner = net at *
  generalize frictF g s.pos t.outer t.inner = rub at *
  have v1 : IntKind.i64.wrap (g.travel - s.pos) = g.travel - s.pos := IntWalk.i64_in _ (by omega)
  have v2 : IntKind.i64.wrap (-net) = -net := IntWalk.i64_in _ (by omega)
  have v3 : IntKind.i64.wrap (g.brake + rub) = g.brake + rub := IntWalk.i64_in _ (by omega)
  have v4 : IntKind.i64.wrap (net + g.drive) = net + g.drive := IntWalk.i64_in _ (by omega)
  have v5 : IntKind.i64.wrap (-net + g.drive) = -net + g.drive := IntWalk.i64_in _ (by omega)
  have v6 : IntKind.i64.wrap (min g.gravity (g.travel - s.pos)) = min g.gravity (g.travel - s.pos) := IntWalk.i64_in _ (by omega)
  have v7 : IntKind.i64.wrap (-min g.gravity s.pos) = -min g.gravity s.pos := IntWalk.i64_in _ (by omega)
  have s0 := range_cell H0.out.ss (show (stL s)[0]? = some (.int .i64 s.pos) from rfl)
  have s1 := range_cell H0.out.ss (show (stL s)[1]? = some (.int .i64 s.charge) from rfl)
  have s2 := range_cell H0.out.ss (show (stL s)[2]? = some (.bool s.bolted) from rfl)
  have t0 := range_cell H0.out.ts (show (spL t)[0]? = some (.int .i64 t.order) from rfl)
  have t1 := range_cell H0.out.ts (show (spL t)[1]? = some (.bool t.power) from rfl)
  have t2 := range_cell H0.out.ts (show (spL t)[2]? = some (.int .i64 t.outer) from rfl)
  have t3 := range_cell H0.out.ts (show (spL t)[3]? = some (.int .i64 t.inner) from rfl)
  have k2 := range_cell H0.out.rows (show (gtL g p)[2]? = some (.int .i64 g.travel) from rfl)
  have k11 := range_cell H0.out.rows (show (gtL g p)[11]? = some (.int .i64 g.drive) from rfl)
  have k12 := range_cell H0.out.rows (show (gtL g p)[12]? = some (.int .i64 g.brake) from rfl)
  have k14 := range_cell H0.out.rows (show (gtL g p)[14]? = some (.int .i64 g.gravity) from rfl)
  have R := H0.out.rows
  go_enter Tryz.func71, Tryz.ntmps71
  go_wp2_with (refine wpList_load_mid rfl 25 _ rfl _ 0 rfl (gtL g p) _ (R) Tryz.underlying25 rfl (by kernel_rfl) ?_)
  refine (HFo.out _ H0.out.below).mono ?_
  rintro e w1 ⟨rfl, hb⟩
  have H1 := hid (H0.out.later hb)
  clear H0 hb
  clear s0 s1 s2 t0 t1 t2 t3 k2 k11 k12 k14 R
  have s0 := range_cell H1.out.ss (show (stL s)[0]? = some (.int .i64 s.pos) from rfl)
  have s1 := range_cell H1.out.ss (show (stL s)[1]? = some (.int .i64 s.charge) from rfl)
  have s2 := range_cell H1.out.ss (show (stL s)[2]? = some (.bool s.bolted) from rfl)
  have t0 := range_cell H1.out.ts (show (spL t)[0]? = some (.int .i64 t.order) from rfl)
  have t1 := range_cell H1.out.ts (show (spL t)[1]? = some (.bool t.power) from rfl)
  have t2 := range_cell H1.out.ts (show (spL t)[2]? = some (.int .i64 t.outer) from rfl)
  have t3 := range_cell H1.out.ts (show (spL t)[3]? = some (.int .i64 t.inner) from rfl)
  have k2 := range_cell H1.out.rows (show (gtL g p)[2]? = some (.int .i64 g.travel) from rfl)
  have k11 := range_cell H1.out.rows (show (gtL g p)[11]? = some (.int .i64 g.drive) from rfl)
  have k12 := range_cell H1.out.rows (show (gtL g p)[12]? = some (.int .i64 g.brake) from rfl)
  have k14 := range_cell H1.out.rows (show (gtL g p)[14]? = some (.int .i64 g.gravity) from rfl)
  have R := H1.out.rows
  have BF := H1.out.below
  rcases hbo : s.bolted with _ | _
  case true =>
    have HR := hid (HAb.out hbo)
    go_wp2_with fail
    refine bodyPost_ret (v := .tuple #[.int .i64 0, .int .i64 0]) (by simp [results, Tryz.results71, go_sem]) rfl ⟨ret_two (by rw [HR.out]) (by rw [HR.out]), BF⟩
  case false =>
    rcases (show t.order = 0 ∨ t.order = 1 ∨ t.order = 2 by omega) with ho | ho | ho
    · have o2 : (t.order == 2) = false := by rw [ho]; rfl
      have o0 : (t.order == 0) = true := by rw [ho]; rfl
      by_cases hn : net < 0
      · have HR0 := hid (HHn.out hbo ho (by omega))
        have qn : decide (net < 0) = true := by simp [hn]
        clear ho hn
        go_wp2_with fail
        go_quiet (fail)
        have HV := hid (H1.out.drewN nq)
        clear BF
        clear s0 s1 s2 t0 t1 t2 t3 k2 k11 k12 k14 R
        clear H1
        generalize World.drewN _ _ = V at *
        have H1 := HV
        have BF := H1.out.below
        have s0 := range_cell H1.out.ss (show (stL s)[0]? = some (.int .i64 s.pos) from rfl)
        have s1 := range_cell H1.out.ss (show (stL s)[1]? = some (.int .i64 s.charge) from rfl)
        have s2 := range_cell H1.out.ss (show (stL s)[2]? = some (.bool s.bolted) from rfl)
        have t0 := range_cell H1.out.ts (show (spL t)[0]? = some (.int .i64 t.order) from rfl)
        have t1 := range_cell H1.out.ts (show (spL t)[1]? = some (.bool t.power) from rfl)
        have t2 := range_cell H1.out.ts (show (spL t)[2]? = some (.int .i64 t.outer) from rfl)
        have t3 := range_cell H1.out.ts (show (spL t)[3]? = some (.int .i64 t.inner) from rfl)
        have k2 := range_cell H1.out.rows (show (gtL g p)[2]? = some (.int .i64 g.travel) from rfl)
        have k11 := range_cell H1.out.rows (show (gtL g p)[11]? = some (.int .i64 g.drive) from rfl)
        have k12 := range_cell H1.out.rows (show (gtL g p)[12]? = some (.int .i64 g.brake) from rfl)
        have k14 := range_cell H1.out.rows (show (gtL g p)[14]? = some (.int .i64 g.gravity) from rfl)
        have R := H1.out.rows
        by_cases h1 : g.brake + rub < -net
        · have HR := hid (show actF g s t = (-min g.gravity s.pos, 0) from HR0.out.trans (if_pos h1))
          have q1 : decide (g.brake + rub < -net) = true := by simp; omega
          clear h1
          go_wp2_with fail
          refine bodyPost_ret (v := .tuple #[.int .i64 (-min g.gravity s.pos), .int .i64 0]) (by simp [results, Tryz.results71, go_sem]) rfl ⟨ret_two (by rw [HR.out]) (by rw [HR.out]), BF⟩
        · have HR := hid (show actF g s t = (0, 0) from HR0.out.trans (if_neg h1))
          have q1 : decide (g.brake + rub < -net) = false := by simp; omega
          clear h1
          go_wp2_with fail
          refine bodyPost_ret (v := .tuple #[.int .i64 0, .int .i64 0]) (by simp [results, Tryz.results71, go_sem]) rfl ⟨ret_two (by rw [HR.out]) (by rw [HR.out]), BF⟩
      · have HR0 := hid (HHp.out hbo ho (by omega))
        have qn : decide (net < 0) = false := by simp; omega
        clear ho hn
        by_cases h1 : g.brake + rub < net
        · have HR := hid (show actF g s t = (min g.gravity (g.travel - s.pos), 0) from HR0.out.trans (if_pos h1))
          have q1 : decide (g.brake + rub < net) = true := by simp; omega
          clear h1
          go_wp2_with fail
          refine bodyPost_ret (v := .tuple #[.int .i64 (min g.gravity (g.travel - s.pos)), .int .i64 0]) (by simp [results, Tryz.results71, go_sem]) rfl ⟨ret_two (by rw [HR.out]) (by rw [HR.out]), BF⟩
        · have HR := hid (show actF g s t = (0, 0) from HR0.out.trans (if_neg h1))
          have q1 : decide (g.brake + rub < net) = false := by simp; omega
          clear h1
          go_wp2_with fail
          refine bodyPost_ret (v := .tuple #[.int .i64 0, .int .i64 0]) (by simp [results, Tryz.results71, go_sem]) rfl ⟨ret_two (by rw [HR.out]) (by rw [HR.out]), BF⟩
    · have o2 : (t.order == 2) = false := by rw [ho]; rfl
      have o0 : (t.order == 0) = false := by rw [ho]; rfl
      have HR0 := hid (HAc.out hbo ho)
      clear ho
      by_cases h1 : rub < net
      · have HR := hid (show actF g s t = (min g.gravity (g.travel - s.pos), 0) by rw [HR0.out, HFw.out, if_pos h1])
        have q1 : decide (rub < net) = true := by simp; omega
        clear h1
        go_wp2_with fail
        refine bodyPost_ret (v := .tuple #[.int .i64 (min g.gravity (g.travel - s.pos)), .int .i64 0]) (by simp [results, Tryz.results71, go_sem]) rfl ⟨ret_two (by rw [HR.out]) (by rw [HR.out]), BF⟩
      have q1 : decide (rub < net) = false := by simp; omega
      by_cases h2 : t.power = true ∧ rub < net + g.drive
      · have q2 : decide (rub < net + g.drive) = true := by simp; omega
        have q3 : t.power = true := h2.1
        obtain ⟨m1, m2, m3, m4⟩ := HMa.out (g.travel - s.pos) (by omega)
        have HD := hid (HDr.out (g.travel - s.pos) w1 (by omega))
        rw [hbo] at HD
        have HR := hid (show actF g s t = ((drivenF g s.charge (min g.speed (g.travel - s.pos))).1, usedN g (drivenF g s.charge (min g.speed (g.travel - s.pos))).1) by rw [HR0.out, HFw.out, if_neg h1, if_pos h2, ← m4])
        generalize (drivenF g s.charge (min g.speed (g.travel - s.pos))).1 = dr at *
        have HU := hid (fun W => HUs.out dr W (by omega))
        generalize usedN g dr = us at *
        have v8 : IntKind.i64.wrap (dr) = dr := IntWalk.i64_in _ (by omega)
        have v9 : IntKind.i64.wrap (-dr) = -dr := IntWalk.i64_in _ (by omega)
        clear h1 h2 m1 m2 m3 m4
        go_upto_region 14 with fail
        go_wp2_with (refine wpList_load_mid rfl 25 _ rfl _ 0 rfl (gtL g p) _ (R) Tryz.underlying25 rfl (by kernel_rfl) ?_)
        with_reducible refine (HD.out).mono ?_
        rintro e w2 ⟨rfl, hb2⟩
        have H2 := hid (H1.out.later hb2)
        have R2 := H2.out.rows
        clear hb2 BF H1 HD
        clear s0 s1 s2 t0 t1 t2 t3 k2 k11 k12 k14 R
        go_wp2_with (refine wpList_load_mid rfl 25 _ rfl _ 0 rfl (gtL g p) _ (R2) Tryz.underlying25 rfl (by kernel_rfl) ?_)
        with_reducible refine (HU.out _).mono ?_
        rintro e w3 ⟨rfl, hb3⟩
        have BF := bthen H2.out.below hb3
        clear R2 hb3
        go_wp2_with fail
        refine bodyPost_ret (v := .tuple #[.int .i64 (dr), .int .i64 us]) (by simp [results, Tryz.results71, go_sem]) rfl ⟨ret_two (by rw [HR.out]) (by rw [HR.out]), BF⟩
      · have HR := hid (show actF g s t = (0, 0) by rw [HR0.out, HFw.out, if_neg h1, if_neg h2])
        rcases hpw : t.power with _ | _
        · clear h1 h2
          go_wp2_with fail
          refine bodyPost_ret (v := .tuple #[.int .i64 0, .int .i64 0]) (by simp [results, Tryz.results71, go_sem]) rfl ⟨ret_two (by rw [HR.out]) (by rw [HR.out]), BF⟩
        · have q2 : decide (rub < net + g.drive) = false := by
            have : ¬ rub < net + g.drive := fun h => h2 ⟨hpw, h⟩
            simp; omega
          clear h1 h2
          go_wp2_with fail
          refine bodyPost_ret (v := .tuple #[.int .i64 0, .int .i64 0]) (by simp [results, Tryz.results71, go_sem]) rfl ⟨ret_two (by rw [HR.out]) (by rw [HR.out]), BF⟩
    · have o2 : (t.order == 2) = true := by rw [ho]; rfl
      have o0 : (t.order == 0) = false := by rw [ho]; rfl
      have HR0 := hid (HAo.out hbo ho)
      clear ho
      go_wp2_with fail
      go_quiet (fail)
      have HV := hid (H1.out.drewN nq)
      clear BF
      clear s0 s1 s2 t0 t1 t2 t3 k2 k11 k12 k14 R
      clear H1
      generalize World.drewN _ _ = V at *
      have H1 := HV
      have BF := H1.out.below
      have s0 := range_cell H1.out.ss (show (stL s)[0]? = some (.int .i64 s.pos) from rfl)
      have s1 := range_cell H1.out.ss (show (stL s)[1]? = some (.int .i64 s.charge) from rfl)
      have s2 := range_cell H1.out.ss (show (stL s)[2]? = some (.bool s.bolted) from rfl)
      have t0 := range_cell H1.out.ts (show (spL t)[0]? = some (.int .i64 t.order) from rfl)
      have t1 := range_cell H1.out.ts (show (spL t)[1]? = some (.bool t.power) from rfl)
      have t2 := range_cell H1.out.ts (show (spL t)[2]? = some (.int .i64 t.outer) from rfl)
      have t3 := range_cell H1.out.ts (show (spL t)[3]? = some (.int .i64 t.inner) from rfl)
      have k2 := range_cell H1.out.rows (show (gtL g p)[2]? = some (.int .i64 g.travel) from rfl)
      have k11 := range_cell H1.out.rows (show (gtL g p)[11]? = some (.int .i64 g.drive) from rfl)
      have k12 := range_cell H1.out.rows (show (gtL g p)[12]? = some (.int .i64 g.brake) from rfl)
      have k14 := range_cell H1.out.rows (show (gtL g p)[14]? = some (.int .i64 g.gravity) from rfl)
      have R := H1.out.rows
      by_cases h1 : rub < -net
      · have HR := hid (show actF g s t = (-min g.gravity (s.pos), 0) by rw [HR0.out, HFw.out, if_pos h1])
        have q1 : decide (rub < -net) = true := by simp; omega
        clear h1
        go_wp2_with fail
        refine bodyPost_ret (v := .tuple #[.int .i64 (-min g.gravity (s.pos)), .int .i64 0]) (by simp [results, Tryz.results71, go_sem]) rfl ⟨ret_two (by rw [HR.out]) (by rw [HR.out]), BF⟩
      have q1 : decide (rub < -net) = false := by simp; omega
      by_cases h2 : t.power = true ∧ rub < -net + g.drive
      · have q2 : decide (rub < -net + g.drive) = true := by simp; omega
        have q3 : t.power = true := h2.1
        obtain ⟨m1, m2, m3, m4⟩ := HMa.out (s.pos) (by omega)
        have HD := hid (HDr.out (s.pos) V (by omega))
        rw [hbo] at HD
        have HR := hid (show actF g s t = (-(drivenF g s.charge (min g.speed (s.pos))).1, usedN g (drivenF g s.charge (min g.speed (s.pos))).1) by rw [HR0.out, HFw.out, if_neg h1, if_pos h2, ← m4])
        generalize (drivenF g s.charge (min g.speed (s.pos))).1 = dr at *
        have HU := hid (fun W => HUs.out dr W (by omega))
        generalize usedN g dr = us at *
        have v8 : IntKind.i64.wrap (dr) = dr := IntWalk.i64_in _ (by omega)
        have v9 : IntKind.i64.wrap (-dr) = -dr := IntWalk.i64_in _ (by omega)
        clear h1 h2 m1 m2 m3 m4
        go_upto_region 14 with fail
        go_wp2_with (refine wpList_load_mid rfl 25 _ rfl _ 0 rfl (gtL g p) _ (R) Tryz.underlying25 rfl (by kernel_rfl) ?_)
        with_reducible refine (HD.out).mono ?_
        rintro e w2 ⟨rfl, hb2⟩
        have H2 := hid (H1.out.later hb2)
        have R2 := H2.out.rows
        clear hb2 BF H1 HD
        clear s0 s1 s2 t0 t1 t2 t3 k2 k11 k12 k14 R
        go_wp2_with (refine wpList_load_mid rfl 25 _ rfl _ 0 rfl (gtL g p) _ (R2) Tryz.underlying25 rfl (by kernel_rfl) ?_)
        with_reducible refine (HU.out _).mono ?_
        rintro e w3 ⟨rfl, hb3⟩
        have BF := bthen H2.out.below hb3
        clear R2 hb3
        go_wp2_with fail
        refine bodyPost_ret (v := .tuple #[.int .i64 (-dr), .int .i64 us]) (by simp [results, Tryz.results71, go_sem]) rfl ⟨ret_two (by rw [HR.out]) (by rw [HR.out]), BF⟩
      · have HR := hid (show actF g s t = (0, 0) by rw [HR0.out, HFw.out, if_neg h1, if_neg h2]; try rfl)
        rcases hpw : t.power with _ | _
        · clear h1 h2
          go_wp2_with fail
          refine bodyPost_ret (v := .tuple #[.int .i64 0, .int .i64 0]) (by simp [results, Tryz.results71, go_sem]) rfl ⟨ret_two (by rw [HR.out]) (by rw [HR.out]), BF⟩
        · have q2 : decide (rub < -net + g.drive) = false := by
            have : ¬ rub < -net + g.drive := fun h => h2 ⟨hpw, h⟩
            simp; omega
          clear h1 h2
          go_wp2_with fail
          refine bodyPost_ret (v := .tuple #[.int .i64 0, .int .i64 0]) (by simp [results, Tryz.results71, go_sem]) rfl ⟨ret_two (by rw [HR.out]) (by rw [HR.out]), BF⟩
end Go.Proofs.YtdoklolinbmhpaaGreat

set_option linter.all false
namespace Go.Proofs.YtdoklolinbmhpaaGreat
open Go.RowKit

set_option maxRecDepth 100000 in
set_option maxHeartbeats 1000000 in
theorem rstate_any (g : Gt) (p : GtP) (s : St) (w : World) :
    Calls Tryz.prog 41 #[.agg (gtL g p).toArray, .agg #[.int .i64 s.pos, .int .i64 s.charge, .bool s.bolted]] w fun e w' => e = .returned (.int .i64 (stE g s)) ∧ Below w.heap.size w w' := by
  have HE := hid (show stE g s = if inB s.pos 0 g.travel = false ∨ inB s.charge 0 g.cap = false then 7 else 0 from rfl)
  have H0 := DrW.start w g p s
  have B0 := H0.below
  have s0 := range_cell H0.ss (show (stL s)[0]? = some (.int .i64 s.pos) from rfl)
  have s1 := range_cell H0.ss (show (stL s)[1]? = some (.int .i64 s.charge) from rfl)
  have k2 := range_cell H0.rows (show (gtL g p)[2]? = some (.int .i64 g.travel) from rfl)
  have k17 := range_cell H0.rows (show (gtL g p)[17]? = some (.int .i64 g.cap) from rfl)
  clear H0
  go_enter Tryz.func41, Tryz.ntmps41
  cases i1 : inB s.pos 0 g.travel
  · have HZ := hid (HE.out.trans (if_pos (.inl i1)))
    go_wp2_with (go_at_call 64; refine (rin3 _ _ _ _).mono ?_; rintro e w' ⟨rfl, rfl⟩)
    go_ret
    exact ⟨ret_iE HZ.out.symm, B0⟩
  cases i2 : inB s.charge 0 g.cap
  · have HZ := hid (HE.out.trans (if_pos (.inr i2)))
    go_wp2_with (go_at_call 64; refine (rin3 _ _ _ _).mono ?_; rintro e w' ⟨rfl, rfl⟩)
    go_ret
    exact ⟨ret_iE HZ.out.symm, B0⟩
  · have HZ := hid (HE.out.trans (if_neg (by rw [i1, i2]; simp)))
    go_wp2_with (go_at_call 64; refine (rin3 _ _ _ _).mono ?_; rintro e w' ⟨rfl, rfl⟩)
    go_ret
    exact ⟨ret_iE HZ.out.symm, B0⟩
set_option maxRecDepth 100000 in
set_option maxHeartbeats 2000000 in
theorem rvalid_any (g : Gt) (p : GtP) (s : St) (t : Sp) (w : World) :
    Calls Tryz.prog 30 #[.agg (gtL g p).toArray, .agg #[.int .i64 s.pos, .int .i64 s.charge, .bool s.bolted], .agg #[.int .i64 t.order, .bool t.power, .int .i64 t.outer, .int .i64 t.inner]] w fun e w' => e = .returned (.int .i64 (spE g s t)) ∧ Below w.heap.size w w' := by
  have HE := hid (show spE g s t = if stE g s ≠ 0 then stE g s else ordE t from rfl)
  have HO := hid (show ordE t = if inB t.order 0 2 = false then 2 else if inB t.outer (-20000) 20000 = false ∨ inB t.inner (-20000) 20000 = false then 7 else 0 from rfl)
  have HS := hid (fun W => rstate_any g p s W)
  have H0 := hid (LwW.start w g p s t)
  have R := H0.out.rows
  have s0 := range_cell H0.out.ss (show (stL s)[0]? = some (.int .i64 s.pos) from rfl)
  have s1 := range_cell H0.out.ss (show (stL s)[1]? = some (.int .i64 s.charge) from rfl)
  have s2 := range_cell H0.out.ss (show (stL s)[2]? = some (.bool s.bolted) from rfl)
  have t0 := range_cell H0.out.ts (show (spL t)[0]? = some (.int .i64 t.order) from rfl)
  have t1 := range_cell H0.out.ts (show (spL t)[1]? = some (.bool t.power) from rfl)
  have t2 := range_cell H0.out.ts (show (spL t)[2]? = some (.int .i64 t.outer) from rfl)
  have t3 := range_cell H0.out.ts (show (spL t)[3]? = some (.int .i64 t.inner) from rfl)
  generalize stE g s = x at *
  go_enter Tryz.func30, Tryz.ntmps30
  go_wp2_with (refine wpList_load_mid rfl 25 _ rfl _ 0 rfl (gtL g p) _ (R) Tryz.underlying25 rfl (by kernel_rfl) ?_)
  refine (HS.out _).mono ?_
  rintro e w1 ⟨rfl, hb⟩
  have H1 := hid (H0.out.later hb)
  clear R s0 s1 s2 t0 t1 t2 t3 hb
  have s0 := range_cell H1.out.ss (show (stL s)[0]? = some (.int .i64 s.pos) from rfl)
  have s1 := range_cell H1.out.ss (show (stL s)[1]? = some (.int .i64 s.charge) from rfl)
  have s2 := range_cell H1.out.ss (show (stL s)[2]? = some (.bool s.bolted) from rfl)
  have t0 := range_cell H1.out.ts (show (spL t)[0]? = some (.int .i64 t.order) from rfl)
  have t1 := range_cell H1.out.ts (show (spL t)[1]? = some (.bool t.power) from rfl)
  have t2 := range_cell H1.out.ts (show (spL t)[2]? = some (.int .i64 t.outer) from rfl)
  have t3 := range_cell H1.out.ts (show (spL t)[3]? = some (.int .i64 t.inner) from rfl)
  have BF := H1.out.below
  by_cases hx : x = 0
  · have q : (x != 0) = false := by simp [hx]
    rw [if_neg (by simp [hx]), HO.out] at HE
    clear hx
    cases i1 : inB t.order 0 2
    · have HZ := hid (HE.out.trans (if_pos i1))
      go_wp2_with (first | (go_at_call 64; refine (rin3 _ _ _ _).mono ?_; rintro e w' ⟨rfl, rfl⟩) | (go_at_call 66; refine (rlevel3 _ _).mono ?_; rintro e w' ⟨rfl, rfl⟩))
      go_ret
      exact ⟨ret_iE HZ.out.symm, BF⟩
    rw [if_neg (by simp [i1])] at HE
    cases i2 : inB t.outer (-20000) 20000
    · have HZ := hid (HE.out.trans (if_pos (.inl i2)))
      go_wp2_with (first | (go_at_call 64; refine (rin3 _ _ _ _).mono ?_; rintro e w' ⟨rfl, rfl⟩) | (go_at_call 66; refine (rlevel3 _ _).mono ?_; rintro e w' ⟨rfl, rfl⟩))
      go_ret
      exact ⟨ret_iE HZ.out.symm, BF⟩
    cases i3 : inB t.inner (-20000) 20000
    · have HZ := hid (HE.out.trans (if_pos (.inr i3)))
      go_wp2_with (first | (go_at_call 64; refine (rin3 _ _ _ _).mono ?_; rintro e w' ⟨rfl, rfl⟩) | (go_at_call 66; refine (rlevel3 _ _).mono ?_; rintro e w' ⟨rfl, rfl⟩))
      go_ret
      exact ⟨ret_iE HZ.out.symm, BF⟩
    · have HZ := hid (HE.out.trans (if_neg (by rw [i2, i3]; simp)))
      go_wp2_with (first | (go_at_call 64; refine (rin3 _ _ _ _).mono ?_; rintro e w' ⟨rfl, rfl⟩) | (go_at_call 66; refine (rlevel3 _ _).mono ?_; rintro e w' ⟨rfl, rfl⟩))
      go_ret
      exact ⟨ret_iE HZ.out.symm, BF⟩
  · have q : (x != 0) = true := by simp [hx]
    have HZ := hid (HE.out.trans (if_pos hx))
    clear hx
    go_wp2_with fail
    go_ret
    exact ⟨ret_iE HZ.out.symm, BF⟩
set_option maxRecDepth 100000 in
set_option maxHeartbeats 1000000 in
theorem rbolted_any (s : St) (t : Sp) (w : World) :
    Calls Tryz.prog 32 #[.agg #[.int .i64 s.pos, .int .i64 s.charge, .bool s.bolted], .agg #[.int .i64 t.order, .bool t.power, .int .i64 t.outer, .int .i64 t.inner]] w fun e w' => e = .returned (.int .i64 (refF s t 0)) ∧ Below w.heap.size w w' := by
  have HE := hid (show refF s t 0 = if t.order = 0 then 0 else if s.bolted = true then 130 else 0 from rfl)
  obtain ⟨B0, s2, t0⟩ : Below w.heap.size w ((w.alloc (.cells #[.int .i64 s.pos, .int .i64 s.charge, .bool s.bolted] 27)).alloc (.cells #[.int .i64 t.order, .bool t.power, .int .i64 t.outer, .int .i64 t.inner] 35)) ∧ ((w.alloc (.cells #[.int .i64 s.pos, .int .i64 s.charge, .bool s.bolted] 27)).alloc (.cells #[.int .i64 t.order, .bool t.power, .int .i64 t.outer, .int .i64 t.inner] 35)).cell? ⟨w.heap.size, 2, none⟩ = some (.bool s.bolted) ∧ ((w.alloc (.cells #[.int .i64 s.pos, .int .i64 s.charge, .bool s.bolted] 27)).alloc (.cells #[.int .i64 t.order, .bool t.power, .int .i64 t.outer, .int .i64 t.inner] 35)).cell? ⟨w.heap.size + 1, 0, none⟩ = some (.int .i64 t.order) := by
    obtain ⟨R1, R2, -, B0⟩ := two_boxes (w := w) (cs := stL s) (ds := spL t) (T := 27) (S := 35) (Below.refl _ _)
    exact ⟨B0, range_cell R1 (show (stL s)[2]? = some (.bool s.bolted) from rfl), range_cell R2 (show (spL t)[0]? = some (.int .i64 t.order) from rfl)⟩
  go_enter Tryz.func32, Tryz.ntmps32
  go_upto_region 1 with fail
  generalize World.alloc (World.alloc w _) _ = W1 at *
  by_cases ho : t.order = 0
  · have HZ := hid (HE.out.trans (if_pos ho))
    have q : (t.order != 0) = false := by simp [ho]
    clear ho
    rcases hb : s.bolted with _ | _
    all_goals
      go_wp2_with fail
      go_ret
      exact ⟨ret_iE HZ.out.symm, B0⟩
  · rw [if_neg ho] at HE
    have q : (t.order != 0) = true := by simp [ho]
    clear ho
    rcases hb : s.bolted with _ | _
    · have HZ := hid (HE.out.trans (if_neg (by simp [hb])))
      go_wp2_with fail
      go_ret
      exact ⟨ret_iE HZ.out.symm, B0⟩
    · have HZ := hid (HE.out.trans (if_pos hb))
      go_wp2_with fail
      go_ret
      exact ⟨ret_iE HZ.out.symm, B0⟩
/-- The five boxes of stepped, in memory. -/
structure SdW (w : World) (g : Gt) (p : GtP) (s : St) (t : Sp) (x : World) : Prop where
  below : Below w.heap.size w x
  lt : w.heap.size + 1 + 1 + 1 + 1 < x.heap.size
  rows : x.rangeAt w.heap.size 0 (gtL g p)
  ss : x.rangeAt (w.heap.size + 1) 0 (stL s)
  ts : x.rangeAt (w.heap.size + 1 + 1) 0 (spL t)
  rs : x.rangeAt (w.heap.size + 1 + 1 + 1) 0 [.int .i64 0, .int .i64 0, .bool false]
  ms : x.rangeAt (w.heap.size + 1 + 1 + 1 + 1) 0 [.int .i64 0, .int .i64 0, .int .i64 0]
  fs : ∀ o, x.frozen? ⟨w.heap.size + 1, o, none⟩ = false
  ft : ∀ o, x.frozen? ⟨w.heap.size + 1 + 1, o, none⟩ = false
  fr : ∀ o, x.frozen? ⟨w.heap.size + 1 + 1 + 1, o, none⟩ = false
  fm : ∀ o, x.frozen? ⟨w.heap.size + 1 + 1 + 1 + 1, o, none⟩ = false
theorem SdW.later {w x y : World} {g : Gt} {p : GtP} {s : St} {t : Sp} (h : SdW w g p s t x) (hb : Below x.heap.size x y) : SdW w g p s t y := by
  have hl := h.lt
  have f : ∀ b o, b < x.heap.size → y.frozen? ⟨b, o, none⟩ = x.frozen? ⟨b, o, none⟩ := fun b o hlt => hb.frozen (p := ⟨b, o, none⟩) hlt
  exact ⟨bthen h.below hb, Nat.lt_of_lt_of_le hl hb.size, range_later h.rows hb (by omega), range_later h.ss hb (by omega), range_later h.ts hb (by omega), range_later h.rs hb (by omega), range_later h.ms hb (by omega),
    fun o => (f _ _ (by omega)).trans (h.fs o), fun o => (f _ _ (by omega)).trans (h.ft o), fun o => (f _ _ (by omega)).trans (h.fr o), fun o => (f _ _ (by omega)).trans (h.fm o)⟩
theorem SdW.start (w : World) (g : Gt) (p : GtP) (s : St) (t : Sp) : SdW w g p s t (((((w.alloc (.cells (gtL g p).toArray 25)).alloc (.cells #[.int .i64 s.pos, .int .i64 s.charge, .bool s.bolted] 27)).alloc (.cells #[.int .i64 t.order, .bool t.power, .int .i64 t.outer, .int .i64 t.inner] 35)).alloc (.cells #[.int .i64 0, .int .i64 0, .bool false] 27)).alloc (.cells #[.int .i64 0, .int .i64 0, .int .i64 0] 31)) := by
  have H := LwW.start w g p s t
  have f1 : ∀ o, (((w.alloc (.cells (gtL g p).toArray 25)).alloc (.cells #[.int .i64 s.pos, .int .i64 s.charge, .bool s.bolted] 27)).alloc (.cells #[.int .i64 t.order, .bool t.power, .int .i64 t.outer, .int .i64 t.inner] 35)).frozen? ⟨w.heap.size + 1, o, none⟩ = false := fun o => by simp [go_sem]
  have f2 : ∀ o, (((w.alloc (.cells (gtL g p).toArray 25)).alloc (.cells #[.int .i64 s.pos, .int .i64 s.charge, .bool s.bolted] 27)).alloc (.cells #[.int .i64 t.order, .bool t.power, .int .i64 t.outer, .int .i64 t.inner] 35)).frozen? ⟨w.heap.size + 1 + 1, o, none⟩ = false := fun o => by simp [go_sem]
  have sz : (((w.alloc (.cells (gtL g p).toArray 25)).alloc (.cells #[.int .i64 s.pos, .int .i64 s.charge, .bool s.bolted] 27)).alloc (.cells #[.int .i64 t.order, .bool t.power, .int .i64 t.outer, .int .i64 t.inner] 35)).heap.size = w.heap.size + 1 + 1 + 1 := by simp
  generalize World.alloc (World.alloc (World.alloc w _) _) _ = X at *
  obtain ⟨h1, h2, h3, h4⟩ := two_boxes (w := X) (cs := [.int .i64 0, .int .i64 0, .bool false]) (ds := [.int .i64 0, .int .i64 0, .int .i64 0]) (T := 27) (S := 31) (Below.refl _ _)
  have g1 : ∀ o, ((X.alloc (.cells #[.int .i64 0, .int .i64 0, .bool false] 27)).alloc (.cells #[.int .i64 0, .int .i64 0, .int .i64 0] 31)).frozen? ⟨X.heap.size, o, none⟩ = false := fun o => by simp [go_sem]
  have g2 : ∀ o, ((X.alloc (.cells #[.int .i64 0, .int .i64 0, .bool false] 27)).alloc (.cells #[.int .i64 0, .int .i64 0, .int .i64 0] 31)).frozen? ⟨X.heap.size + 1, o, none⟩ = false := fun o => by simp [go_sem]
  have hl := H.lt
  have f : ∀ b o, b < X.heap.size → ((X.alloc (.cells #[.int .i64 0, .int .i64 0, .bool false] 27)).alloc (.cells #[.int .i64 0, .int .i64 0, .int .i64 0] 31)).frozen? ⟨b, o, none⟩ = X.frozen? ⟨b, o, none⟩ := fun b o hlt => h4.frozen (p := ⟨b, o, none⟩) hlt
  rw [sz] at h1 h2 h3 g1 g2
  exact ⟨bthen H.below h4, by omega, range_later H.rows h4 (by omega), range_later H.ss h4 (by omega), range_later H.ts h4 (by omega), h1, h2, fun o => (f _ _ (by omega)).trans (f1 o), fun o => (f _ _ (by omega)).trans (f2 o), g1, g2⟩
/-- The order is held. -/
theorem SdW.hold {w x : World} {g : Gt} {p : GtP} {s : St} {t : Sp} (h : SdW w g p s t x) : SdW w g p s { t with order := 0 } (x.setCell ⟨w.heap.size + 1 + 1, 0, none⟩ (.int .i64 0)) := by
  have o : ∀ b j, b ≠ w.heap.size + 1 + 1 → (x.setCell ⟨w.heap.size + 1 + 1, 0, none⟩ (.int .i64 0)).cell? ⟨b, j, none⟩ = x.cell? ⟨b, j, none⟩ := fun b j hb => cs_o (.inl hb)
  have t0 := range_cell h.ts (show (spL t)[0]? = some (.int .i64 t.order) from rfl)
  refine ⟨h.below.setCell (by show w.heap.size ≤ w.heap.size + 1 + 1; omega) _, by simpa using h.lt, fun j v hv => (o _ _ (by omega)).trans (h.rows j v hv), fun j v hv => (o _ _ (by omega)).trans (h.ss j v hv), fun j v hv => ?_, fun j v hv => (o _ _ (by omega)).trans (h.rs j v hv), fun j v hv => (o _ _ (by omega)).trans (h.ms j v hv), fun o => by simpa using h.fs o, fun o => by simpa using h.ft o, fun o => by simpa using h.fr o, fun o => by simpa using h.fm o⟩
  match j with
  | 0 =>
    have e : Value.int .i64 0 = v := by simpa [spL] using hv
    subst e
    exact cs_s ⟨_, t0⟩
  | j + 1 =>
    rw [Nat.zero_add, cs_o (.inr (by omega))]
    have := h.ts (j + 1) v (by simpa [spL] using hv)
    rwa [Nat.zero_add] at this
/-- The boxes of stepped behind its stores to the state. -/
structure EdW (w : World) (v0 v1 v2 : Value) (x : World) : Prop where
  below : Below w.heap.size w x
  lt : w.heap.size + 1 + 1 + 1 + 1 < x.heap.size
  s0 : x.cell? ⟨w.heap.size + 1, 0, none⟩ = some v0
  s1 : x.cell? ⟨w.heap.size + 1, 1, none⟩ = some v1
  s2 : x.cell? ⟨w.heap.size + 1, 2, none⟩ = some v2
  r0 : ∃ z, x.cell? ⟨w.heap.size + 1 + 1 + 1, 0, none⟩ = some z
  r1 : ∃ z, x.cell? ⟨w.heap.size + 1 + 1 + 1, 1, none⟩ = some z
  r2 : ∃ z, x.cell? ⟨w.heap.size + 1 + 1 + 1, 2, none⟩ = some z
  m0 : ∃ z, x.cell? ⟨w.heap.size + 1 + 1 + 1 + 1, 0, none⟩ = some z
  m1 : ∃ z, x.cell? ⟨w.heap.size + 1 + 1 + 1 + 1, 1, none⟩ = some z
  m2 : ∃ z, x.cell? ⟨w.heap.size + 1 + 1 + 1 + 1, 2, none⟩ = some z
  fr : ∀ o, x.frozen? ⟨w.heap.size + 1 + 1 + 1, o, none⟩ = false
  fm : ∀ o, x.frozen? ⟨w.heap.size + 1 + 1 + 1 + 1, o, none⟩ = false
theorem SdW.wrote {w x : World} {g : Gt} {p : GtP} {s : St} {t : Sp} (h : SdW w g p s t x) (v0 v1 : Value) : EdW w v0 v1 (.bool s.bolted) ((x.setCell ⟨w.heap.size + 1, 0, none⟩ v0).setCell ⟨w.heap.size + 1, 1, none⟩ v1) := by
  have c : ∀ b j, b ≠ w.heap.size + 1 → ((x.setCell ⟨w.heap.size + 1, 0, none⟩ v0).setCell ⟨w.heap.size + 1, 1, none⟩ v1).cell? ⟨b, j, none⟩ = x.cell? ⟨b, j, none⟩ := fun b j hb => (cs_o (.inl hb)).trans (cs_o (.inl hb))
  have s0 := range_cell h.ss (show (stL s)[0]? = some (.int .i64 s.pos) from rfl)
  have s1 := range_cell h.ss (show (stL s)[1]? = some (.int .i64 s.charge) from rfl)
  have s2 := range_cell h.ss (show (stL s)[2]? = some (.bool s.bolted) from rfl)
  have r0 := range_cell h.rs (show [_, _, _][0]? = some (.int .i64 0) from rfl)
  have r1 := range_cell h.rs (show [_, _, _][1]? = some (.int .i64 0) from rfl)
  have r2 := range_cell h.rs (show [_, _, _][2]? = some (.bool false) from rfl)
  have m0 := range_cell h.ms (show [_, _, _][0]? = some (.int .i64 0) from rfl)
  have m1 := range_cell h.ms (show [_, _, _][1]? = some (.int .i64 0) from rfl)
  have m2 := range_cell h.ms (show [_, _, _][2]? = some (.int .i64 0) from rfl)
  exact ⟨(h.below.setCell (by show w.heap.size ≤ w.heap.size + 1; omega) _).setCell (by show w.heap.size ≤ w.heap.size + 1; omega) _, by simpa using h.lt, (cs_o (.inr (by omega))).trans (cs_s ⟨_, s0⟩), cs_s (cell_ex ⟨_, s1⟩), (cs_o (.inr (by omega))).trans ((cs_o (.inr (by omega))).trans s2),
    ⟨_, (c _ _ (by omega)).trans r0⟩, ⟨_, (c _ _ (by omega)).trans r1⟩, ⟨_, (c _ _ (by omega)).trans r2⟩, ⟨_, (c _ _ (by omega)).trans m0⟩, ⟨_, (c _ _ (by omega)).trans m1⟩, ⟨_, (c _ _ (by omega)).trans m2⟩, fun o => by simpa using h.fr o, fun o => by simpa using h.fm o⟩
theorem EdW.again {w x : World} {v0 v1 v2 : Value} (h : EdW w v0 v1 v2 x) (v : Value) : EdW w v0 v v2 (x.setCell ⟨w.heap.size + 1, 1, none⟩ v) := by
  have c : ∀ b j, b ≠ w.heap.size + 1 → (x.setCell ⟨w.heap.size + 1, 1, none⟩ v).cell? ⟨b, j, none⟩ = x.cell? ⟨b, j, none⟩ := fun b j hb => cs_o (.inl hb)
  exact ⟨h.below.setCell (by show w.heap.size ≤ w.heap.size + 1; omega) _, by simpa using h.lt, (cs_o (.inr (by omega))).trans h.s0, cs_s ⟨_, h.s1⟩, (cs_o (.inr (by omega))).trans h.s2,
    by rw [c _ _ (by omega)]; exact h.r0, by rw [c _ _ (by omega)]; exact h.r1, by rw [c _ _ (by omega)]; exact h.r2, by rw [c _ _ (by omega)]; exact h.m0, by rw [c _ _ (by omega)]; exact h.m1, by rw [c _ _ (by omega)]; exact h.m2, fun o => by simpa using h.fr o, fun o => by simpa using h.fm o⟩
set_option maxRecDepth 100000 in
set_option maxHeartbeats 8000000 in
theorem rstepped_any (g : Gt) (p : GtP) (s : St) (t : Sp) (r : Int) (w : World) (hg : GtGood g) (hs : StGood g s) (ht : SpGood t) (hat : IntsAt w p.oa g.own) :
    Calls Tryz.prog 31 #[.agg (gtL g p).toArray, .agg #[.int .i64 s.pos, .int .i64 s.charge, .bool s.bolted], .agg #[.int .i64 t.order, .bool t.power, .int .i64 t.outer, .int .i64 t.inner], .int .i64 r] w fun e w' => e = .returned (.tuple #[.agg #[.int .i64 (stpF g s t r).1.pos, .int .i64 (stpF g s t r).1.charge, .bool (stpF g s t r).1.bolted], .agg #[.int .i64 (stpF g s t r).2.1, .int .i64 (stpF g s t r).2.2.1, .int .i64 (stpF g s t r).2.2.2]]) ∧ Below w.heap.size w w' := by
  have hb := act_bd hg hs (heldT t r)
  have HMv := hid (fun W (hW : Below w.heap.size w W) => rmoved_any g p s (heldT t r) W hg hs (held_good r ht) (hat.later hW (Nat.le_refl _)))
  have HE := hid (show stpF g s t r = (⟨s.pos + (actF g s (heldT t r)).1, if t.power = true then min (s.charge - (actF g s (heldT t r)).2 + g.pump) g.cap else s.charge - (actF g s (heldT t r)).2, s.bolted⟩, r, (actF g s (heldT t r)).1, (actF g s (heldT t r)).2) from rfl)
  obtain ⟨d1, d2, hd⟩ : ∃ a b, actF g s (heldT t r) = (a, b) := ⟨_, _, rfl⟩
  rw [hd] at HMv HE hb
  dsimp only at HMv HE hb
  have htv := hg.travel; have hpm := hg.pump; have hcp := hg.cap; have hch := hs.charge; have hpo := hs.pos
  have v1 : IntKind.i64.wrap (s.pos + d1) = s.pos + d1 := IntWalk.i64_in _ (by omega)
  have v2 : IntKind.i64.wrap (s.charge - d2) = s.charge - d2 := IntWalk.i64_in _ (by omega)
  have v3 : IntKind.i64.wrap (s.charge - d2 + g.pump) = s.charge - d2 + g.pump := IntWalk.i64_in _ (by omega)
  have H0 := hid (SdW.start w g p s t)
  clear hb hd hg hs ht hat htv hpm hcp hch hpo
  generalize stpF g s t r = u at *
  go_enter Tryz.func31, Tryz.ntmps31
  go_upto_region 1 with fail
  generalize World.alloc (World.alloc (World.alloc (World.alloc (World.alloc w _) _) _) _) _ = W1 at *
  by_cases hr : r = 0
  · have q : (r != 0) = false := by simp [hr]
    have hT : heldT t r = t := by unfold heldT; rw [if_pos hr]
    rw [hT] at HMv
    have hpt : (t.power : Bool) = t.power := rfl
    clear hT hr hpt
    have R := H0.out.rows
    have s0 := range_cell H0.out.ss (show (stL s)[0]? = some (.int .i64 s.pos) from rfl)
    have s1 := range_cell H0.out.ss (show (stL s)[1]? = some (.int .i64 s.charge) from rfl)
    have s2 := range_cell H0.out.ss (show (stL s)[2]? = some (.bool s.bolted) from rfl)
    have t0 := range_cell H0.out.ts (show (spL t)[0]? = some (.int .i64 t.order) from rfl)
    have t1 := range_cell H0.out.ts (show (spL t)[1]? = some (.bool t.power) from rfl)
    have t2 := range_cell H0.out.ts (show (spL t)[2]? = some (.int .i64 t.outer) from rfl)
    have t3 := range_cell H0.out.ts (show (spL t)[3]? = some (.int .i64 t.inner) from rfl)
    go_wp2_with (refine wpList_load_mid rfl 25 _ rfl _ 0 rfl (gtL g p) _ (R) Tryz.underlying25 rfl (by kernel_rfl) ?_)
    with_reducible refine (HMv.out _ H0.out.below).mono ?_
    rintro e w2 ⟨rfl, hb⟩
    have H3 := hid (H0.out.later hb)
    clear R s0 s1 s2 t0 t1 t2 t3 hb H0 HMv
    have s0 := range_cell H3.out.ss (show (stL s)[0]? = some (.int .i64 s.pos) from rfl)
    have s1 := range_cell H3.out.ss (show (stL s)[1]? = some (.int .i64 s.charge) from rfl)
    have s2 := range_cell H3.out.ss (show (stL s)[2]? = some (.bool s.bolted) from rfl)
    have t1 := range_cell H3.out.ts (show (spL _)[1]? = some (.bool t.power) from rfl)
    have k16 := range_cell H3.out.rows (show (gtL g p)[16]? = some (.int .i64 g.pump) from rfl)
    have k17 := range_cell H3.out.rows (show (gtL g p)[17]? = some (.int .i64 g.cap) from rfl)
    have fs := H3.out.fs
    have hlt := H3.out.lt
    have E1 := hid (H3.out.wrote (.int .i64 (s.pos + d1)) (.int .i64 (s.charge - d2)))
    have E2 := hid (E1.out.again (.int .i64 (min (s.charge - d2 + g.pump) g.cap)))
    clear H3
    rcases hpw : t.power with _ | _
    · have HZ := hid (show u = (⟨s.pos + d1, s.charge - d2, s.bolted⟩, r, d1, d2) by rw [HE.out, hpw]; rfl)
      go_upto_region 7 with fail
      clear s0 s1 s2 t1 k16 k17 fs hlt E2
      generalize World.setCell (World.setCell w2 _ _) _ _ = U at *
      have s0 := E1.out.s0
      have s1 := E1.out.s1
      have s2 := E1.out.s2
      have fr := E1.out.fr
      have fm := E1.out.fm
      have BF := E1.out.below
      obtain ⟨z0, r0⟩ := E1.out.r0
      obtain ⟨z1, r1⟩ := E1.out.r1
      obtain ⟨z2, r2⟩ := E1.out.r2
      obtain ⟨z3, m0⟩ := E1.out.m0
      obtain ⟨z4, m1⟩ := E1.out.m1
      obtain ⟨z5, m2⟩ := E1.out.m2
      have hfin := hid (fin10 (U := U) (A := w.heap.size + 1 + 1 + 1) (B := w.heap.size + 1 + 1 + 1 + 1) (by omega) ⟨_, r0⟩ ⟨_, r1⟩ ⟨_, r2⟩ ⟨_, m0⟩ ⟨_, m1⟩ ⟨_, m2⟩ (.int .i64 (s.pos + d1)) (.int .i64 (s.charge - d2)) (.bool s.bolted) (.int .i64 r) (.int .i64 d1) (.int .i64 d2))
      have BN := hid ((((((BF.setCell (p := ⟨w.heap.size + 1 + 1 + 1, 0, none⟩) (by show w.heap.size ≤ w.heap.size + 1 + 1 + 1; omega) (.int .i64 (s.pos + d1))).setCell (p := ⟨w.heap.size + 1 + 1 + 1, 1, none⟩) (by show w.heap.size ≤ w.heap.size + 1 + 1 + 1; omega) (.int .i64 (s.charge - d2))).setCell (p := ⟨w.heap.size + 1 + 1 + 1, 2, none⟩) (by show w.heap.size ≤ w.heap.size + 1 + 1 + 1; omega) (.bool s.bolted)).setCell (p := ⟨w.heap.size + 1 + 1 + 1 + 1, 0, none⟩) (by show w.heap.size ≤ w.heap.size + 1 + 1 + 1 + 1; omega) (.int .i64 r)).setCell (p := ⟨w.heap.size + 1 + 1 + 1 + 1, 1, none⟩) (by show w.heap.size ≤ w.heap.size + 1 + 1 + 1 + 1; omega) (.int .i64 d1)).setCell (p := ⟨w.heap.size + 1 + 1 + 1 + 1, 2, none⟩) (by show w.heap.size ≤ w.heap.size + 1 + 1 + 1 + 1; omega) (.int .i64 d2))
      clear BF E1
      go_wp2_with fail
      generalize World.setCell (World.setCell (World.setCell (World.setCell (World.setCell (World.setCell U _ _) _ _) _ _) _ _) _ _) _ _ = F at *
      obtain ⟨f0, f1, f2, f3, f4, f5⟩ := hfin.out
      refine bodyPost_ret (v := .tuple #[.agg #[.int .i64 (s.pos + d1), .int .i64 (s.charge - d2), .bool s.bolted], .agg #[.int .i64 r, .int .i64 d1, .int .i64 d2]]) (by simp [results, Tryz.results31, go_sem, f0, f1, f2, f3, f4, f5]) rfl ⟨by rw [HZ.out], BN.out⟩
    · have HZ := hid (show u = (⟨s.pos + d1, min (s.charge - d2 + g.pump) g.cap, s.bolted⟩, r, d1, d2) by rw [HE.out, hpw]; rfl)
      have e1 := E1.out.s1
      go_upto_region 7 with fail
      clear s0 s1 s2 t1 k16 k17 fs hlt e1
      replace E1 := E2
      clear E2
      generalize World.setCell (World.setCell (World.setCell w2 _ _) _ _) _ _ = U at *
      have s0 := E1.out.s0
      have s1 := E1.out.s1
      have s2 := E1.out.s2
      have fr := E1.out.fr
      have fm := E1.out.fm
      have BF := E1.out.below
      obtain ⟨z0, r0⟩ := E1.out.r0
      obtain ⟨z1, r1⟩ := E1.out.r1
      obtain ⟨z2, r2⟩ := E1.out.r2
      obtain ⟨z3, m0⟩ := E1.out.m0
      obtain ⟨z4, m1⟩ := E1.out.m1
      obtain ⟨z5, m2⟩ := E1.out.m2
      have hfin := hid (fin10 (U := U) (A := w.heap.size + 1 + 1 + 1) (B := w.heap.size + 1 + 1 + 1 + 1) (by omega) ⟨_, r0⟩ ⟨_, r1⟩ ⟨_, r2⟩ ⟨_, m0⟩ ⟨_, m1⟩ ⟨_, m2⟩ (.int .i64 (s.pos + d1)) (.int .i64 (min (s.charge - d2 + g.pump) g.cap)) (.bool s.bolted) (.int .i64 r) (.int .i64 d1) (.int .i64 d2))
      have BN := hid ((((((BF.setCell (p := ⟨w.heap.size + 1 + 1 + 1, 0, none⟩) (by show w.heap.size ≤ w.heap.size + 1 + 1 + 1; omega) (.int .i64 (s.pos + d1))).setCell (p := ⟨w.heap.size + 1 + 1 + 1, 1, none⟩) (by show w.heap.size ≤ w.heap.size + 1 + 1 + 1; omega) (.int .i64 (min (s.charge - d2 + g.pump) g.cap))).setCell (p := ⟨w.heap.size + 1 + 1 + 1, 2, none⟩) (by show w.heap.size ≤ w.heap.size + 1 + 1 + 1; omega) (.bool s.bolted)).setCell (p := ⟨w.heap.size + 1 + 1 + 1 + 1, 0, none⟩) (by show w.heap.size ≤ w.heap.size + 1 + 1 + 1 + 1; omega) (.int .i64 r)).setCell (p := ⟨w.heap.size + 1 + 1 + 1 + 1, 1, none⟩) (by show w.heap.size ≤ w.heap.size + 1 + 1 + 1 + 1; omega) (.int .i64 d1)).setCell (p := ⟨w.heap.size + 1 + 1 + 1 + 1, 2, none⟩) (by show w.heap.size ≤ w.heap.size + 1 + 1 + 1 + 1; omega) (.int .i64 d2))
      clear BF E1
      go_wp2_with fail
      generalize World.setCell (World.setCell (World.setCell (World.setCell (World.setCell (World.setCell U _ _) _ _) _ _) _ _) _ _) _ _ = F at *
      obtain ⟨f0, f1, f2, f3, f4, f5⟩ := hfin.out
      refine bodyPost_ret (v := .tuple #[.agg #[.int .i64 (s.pos + d1), .int .i64 (min (s.charge - d2 + g.pump) g.cap), .bool s.bolted], .agg #[.int .i64 r, .int .i64 d1, .int .i64 d2]]) (by simp [results, Tryz.results31, go_sem, f0, f1, f2, f3, f4, f5]) rfl ⟨by rw [HZ.out], BN.out⟩
  · have q : (r != 0) = true := by simp [hr]
    have hT : heldT t r = { t with order := 0 } := by unfold heldT; rw [if_neg hr]
    rw [hT] at HMv
    dsimp only at HMv
    have H2 := hid H0.out.hold
    have ft := H0.out.ft
    have lt := H0.out.lt
    have lt2 : w.heap.size + 1 + 1 < W1.heap.size := by omega
    have tt0 := range_cell H0.out.ts (show (spL t)[0]? = some (.int .i64 t.order) from rfl)
    clear hT hr
    have R := H2.out.rows
    have s0 := range_cell H2.out.ss (show (stL s)[0]? = some (.int .i64 s.pos) from rfl)
    have s1 := range_cell H2.out.ss (show (stL s)[1]? = some (.int .i64 s.charge) from rfl)
    have s2 := range_cell H2.out.ss (show (stL s)[2]? = some (.bool s.bolted) from rfl)
    have t0 := range_cell H2.out.ts (show (spL { t with order := 0 })[0]? = some (.int .i64 0) from rfl)
    have t1 := range_cell H2.out.ts (show (spL { t with order := 0 })[1]? = some (.bool t.power) from rfl)
    have t2 := range_cell H2.out.ts (show (spL { t with order := 0 })[2]? = some (.int .i64 t.outer) from rfl)
    have t3 := range_cell H2.out.ts (show (spL { t with order := 0 })[3]? = some (.int .i64 t.inner) from rfl)
    go_wp2_with (refine wpList_load_mid rfl 25 _ rfl _ 0 rfl (gtL g p) _ (R) Tryz.underlying25 rfl (by kernel_rfl) ?_)
    clear ft lt lt2 tt0 H0
    have H0 := H2
    clear H2
    generalize World.setCell W1 _ _ = W2 at *
    with_reducible refine (HMv.out _ H0.out.below).mono ?_
    rintro e w2 ⟨rfl, hb⟩
    have H3 := hid (H0.out.later hb)
    clear R s0 s1 s2 t0 t1 t2 t3 hb H0 HMv
    have s0 := range_cell H3.out.ss (show (stL s)[0]? = some (.int .i64 s.pos) from rfl)
    have s1 := range_cell H3.out.ss (show (stL s)[1]? = some (.int .i64 s.charge) from rfl)
    have s2 := range_cell H3.out.ss (show (stL s)[2]? = some (.bool s.bolted) from rfl)
    have t1 := range_cell H3.out.ts (show (spL _)[1]? = some (.bool t.power) from rfl)
    have k16 := range_cell H3.out.rows (show (gtL g p)[16]? = some (.int .i64 g.pump) from rfl)
    have k17 := range_cell H3.out.rows (show (gtL g p)[17]? = some (.int .i64 g.cap) from rfl)
    have fs := H3.out.fs
    have hlt := H3.out.lt
    have E1 := hid (H3.out.wrote (.int .i64 (s.pos + d1)) (.int .i64 (s.charge - d2)))
    have E2 := hid (E1.out.again (.int .i64 (min (s.charge - d2 + g.pump) g.cap)))
    clear H3
    rcases hpw : t.power with _ | _
    · have HZ := hid (show u = (⟨s.pos + d1, s.charge - d2, s.bolted⟩, r, d1, d2) by rw [HE.out, hpw]; rfl)
      go_upto_region 7 with fail
      clear s0 s1 s2 t1 k16 k17 fs hlt E2
      generalize World.setCell (World.setCell w2 _ _) _ _ = U at *
      have s0 := E1.out.s0
      have s1 := E1.out.s1
      have s2 := E1.out.s2
      have fr := E1.out.fr
      have fm := E1.out.fm
      have BF := E1.out.below
      obtain ⟨z0, r0⟩ := E1.out.r0
      obtain ⟨z1, r1⟩ := E1.out.r1
      obtain ⟨z2, r2⟩ := E1.out.r2
      obtain ⟨z3, m0⟩ := E1.out.m0
      obtain ⟨z4, m1⟩ := E1.out.m1
      obtain ⟨z5, m2⟩ := E1.out.m2
      have hfin := hid (fin10 (U := U) (A := w.heap.size + 1 + 1 + 1) (B := w.heap.size + 1 + 1 + 1 + 1) (by omega) ⟨_, r0⟩ ⟨_, r1⟩ ⟨_, r2⟩ ⟨_, m0⟩ ⟨_, m1⟩ ⟨_, m2⟩ (.int .i64 (s.pos + d1)) (.int .i64 (s.charge - d2)) (.bool s.bolted) (.int .i64 r) (.int .i64 d1) (.int .i64 d2))
      have BN := hid ((((((BF.setCell (p := ⟨w.heap.size + 1 + 1 + 1, 0, none⟩) (by show w.heap.size ≤ w.heap.size + 1 + 1 + 1; omega) (.int .i64 (s.pos + d1))).setCell (p := ⟨w.heap.size + 1 + 1 + 1, 1, none⟩) (by show w.heap.size ≤ w.heap.size + 1 + 1 + 1; omega) (.int .i64 (s.charge - d2))).setCell (p := ⟨w.heap.size + 1 + 1 + 1, 2, none⟩) (by show w.heap.size ≤ w.heap.size + 1 + 1 + 1; omega) (.bool s.bolted)).setCell (p := ⟨w.heap.size + 1 + 1 + 1 + 1, 0, none⟩) (by show w.heap.size ≤ w.heap.size + 1 + 1 + 1 + 1; omega) (.int .i64 r)).setCell (p := ⟨w.heap.size + 1 + 1 + 1 + 1, 1, none⟩) (by show w.heap.size ≤ w.heap.size + 1 + 1 + 1 + 1; omega) (.int .i64 d1)).setCell (p := ⟨w.heap.size + 1 + 1 + 1 + 1, 2, none⟩) (by show w.heap.size ≤ w.heap.size + 1 + 1 + 1 + 1; omega) (.int .i64 d2))
      clear BF E1
      go_wp2_with fail
      generalize World.setCell (World.setCell (World.setCell (World.setCell (World.setCell (World.setCell U _ _) _ _) _ _) _ _) _ _) _ _ = F at *
      obtain ⟨f0, f1, f2, f3, f4, f5⟩ := hfin.out
      refine bodyPost_ret (v := .tuple #[.agg #[.int .i64 (s.pos + d1), .int .i64 (s.charge - d2), .bool s.bolted], .agg #[.int .i64 r, .int .i64 d1, .int .i64 d2]]) (by simp [results, Tryz.results31, go_sem, f0, f1, f2, f3, f4, f5]) rfl ⟨by rw [HZ.out], BN.out⟩
    · have HZ := hid (show u = (⟨s.pos + d1, min (s.charge - d2 + g.pump) g.cap, s.bolted⟩, r, d1, d2) by rw [HE.out, hpw]; rfl)
      have e1 := E1.out.s1
      go_upto_region 7 with fail
      clear s0 s1 s2 t1 k16 k17 fs hlt e1
      replace E1 := E2
      clear E2
      generalize World.setCell (World.setCell (World.setCell w2 _ _) _ _) _ _ = U at *
      have s0 := E1.out.s0
      have s1 := E1.out.s1
      have s2 := E1.out.s2
      have fr := E1.out.fr
      have fm := E1.out.fm
      have BF := E1.out.below
      obtain ⟨z0, r0⟩ := E1.out.r0
      obtain ⟨z1, r1⟩ := E1.out.r1
      obtain ⟨z2, r2⟩ := E1.out.r2
      obtain ⟨z3, m0⟩ := E1.out.m0
      obtain ⟨z4, m1⟩ := E1.out.m1
      obtain ⟨z5, m2⟩ := E1.out.m2
      have hfin := hid (fin10 (U := U) (A := w.heap.size + 1 + 1 + 1) (B := w.heap.size + 1 + 1 + 1 + 1) (by omega) ⟨_, r0⟩ ⟨_, r1⟩ ⟨_, r2⟩ ⟨_, m0⟩ ⟨_, m1⟩ ⟨_, m2⟩ (.int .i64 (s.pos + d1)) (.int .i64 (min (s.charge - d2 + g.pump) g.cap)) (.bool s.bolted) (.int .i64 r) (.int .i64 d1) (.int .i64 d2))
      have BN := hid ((((((BF.setCell (p := ⟨w.heap.size + 1 + 1 + 1, 0, none⟩) (by show w.heap.size ≤ w.heap.size + 1 + 1 + 1; omega) (.int .i64 (s.pos + d1))).setCell (p := ⟨w.heap.size + 1 + 1 + 1, 1, none⟩) (by show w.heap.size ≤ w.heap.size + 1 + 1 + 1; omega) (.int .i64 (min (s.charge - d2 + g.pump) g.cap))).setCell (p := ⟨w.heap.size + 1 + 1 + 1, 2, none⟩) (by show w.heap.size ≤ w.heap.size + 1 + 1 + 1; omega) (.bool s.bolted)).setCell (p := ⟨w.heap.size + 1 + 1 + 1 + 1, 0, none⟩) (by show w.heap.size ≤ w.heap.size + 1 + 1 + 1 + 1; omega) (.int .i64 r)).setCell (p := ⟨w.heap.size + 1 + 1 + 1 + 1, 1, none⟩) (by show w.heap.size ≤ w.heap.size + 1 + 1 + 1 + 1; omega) (.int .i64 d1)).setCell (p := ⟨w.heap.size + 1 + 1 + 1 + 1, 2, none⟩) (by show w.heap.size ≤ w.heap.size + 1 + 1 + 1 + 1; omega) (.int .i64 d2))
      clear BF E1
      go_wp2_with fail
      generalize World.setCell (World.setCell (World.setCell (World.setCell (World.setCell (World.setCell U _ _) _ _) _ _) _ _) _ _) _ _ = F at *
      obtain ⟨f0, f1, f2, f3, f4, f5⟩ := hfin.out
      refine bodyPost_ret (v := .tuple #[.agg #[.int .i64 (s.pos + d1), .int .i64 (min (s.charge - d2 + g.pump) g.cap), .bool s.bolted], .agg #[.int .i64 r, .int .i64 d1, .int .i64 d2]]) (by simp [results, Tryz.results31, go_sem, f0, f1, f2, f3, f4, f5]) rfl ⟨by rw [HZ.out], BN.out⟩
end Go.Proofs.YtdoklolinbmhpaaGreat
