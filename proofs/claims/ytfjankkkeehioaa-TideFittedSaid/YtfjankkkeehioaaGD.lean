/- Tide, part GD: TideTrue's walk. -/
import Derived.Test.YtfjankkkeehioaaGB
import Derived.Test.YtfjankkkeehioaaGC
import Derived.Test.YtfjankkkeehioaaTP
set_option linter.all false
namespace Go.Proofs.Ytfjankkkeehioaa
open Go.RowKit

theorem checkY (g : Gau) (rs : List Rdg) (p : GPos) (w : World) (hok : GauOk w p { g with rs := rs }) (r : Int × Int × Int) (hr : gaugeP { g with rs := rs } = r) :
    Calls Try.prog 28 #[.agg #[.string g.name, .int .i64 g.err, .int .i64 g.rate, .slice p.da g.ds.length p.dc, .slice p.ra rs.length p.rc]] w
      fun e w' => e = .returned (.tuple #[.int .i64 r.1, .int .i64 r.2.1, .int .i64 r.2.2]) ∧ Below w.heap.size w w' := by
  subst hr; exact checkGauge_any { g with rs := rs } p w hok
theorem saysY (g : Gau) (rs : List Rdg) (p : GPos) (t now : Int) (s : (Int × Int) × Int) (w : World) (hok : GauOk w p { g with rs := rs }) (hs : saysP { g with rs := rs } t now = s) :
    Calls Try.prog 30 #[.agg #[.string g.name, .int .i64 g.err, .int .i64 g.rate, .slice p.da g.ds.length p.dc, .slice p.ra rs.length p.rc], .int .i64 t, .int .i64 now] w
      fun e w' => e = .returned (.tuple #[.agg #[.int .i64 s.1.1, .int .i64 s.1.2], .int .i64 s.2]) ∧ Below w.heap.size w w' := by
  rw [← hs]; exact saysFn_any { g with rs := rs } p t now w hok
theorem has_yes (a b n : Int) (w : World) (h1 : a ≤ n) (h2 : n ≤ b) :
    Calls Try.prog 44 #[.agg #[.int .i64 a, .int .i64 b], .int .i64 n] w fun e w' => e = .returned (.bool true) ∧ Below w.heap.size w w' := by
  go_enter Try.func44, Try.ntmps44
  go_wp2
  go_ret
  exact ⟨rfl, by repeat (first | exact Below.refl _ _ | refine Below.alloc ?_ (by simp <;> omega) _ | refine Below.drew ?_ | refine below_drewN ?_ _)⟩
theorem within_yes (a b c d : Int) (w : World) (h1 : c ≤ a) (h2 : b ≤ d) :
    Calls Try.prog 45 #[.agg #[.int .i64 a, .int .i64 b], .agg #[.int .i64 c, .int .i64 d]] w fun e w' => e = .returned (.bool true) ∧ Below w.heap.size w w' := by
  go_enter Try.func45, Try.ntmps45
  go_wp2
  go_ret
  exact ⟨rfl, by repeat (first | exact Below.refl _ _ | refine Below.alloc ?_ (by simp <;> omega) _ | refine Below.drew ?_ | refine below_drewN ?_ _)⟩

theorem Came.with {g : Gau} {rs : List Rdg} {x : Int} {sh L : List Int} {r : Rdg} (h : Came g x sh L r) : Came { g with rs := rs } x sh L r := by
  obtain ⟨p, h1, h2, h3⟩ := h
  exact ⟨p, h1, h2, fun hs => h3 ⟨hs.err, hs.dlen, hs.dat⟩⟩
set_option maxRecDepth 100000 in
set_option maxHeartbeats 8000000 in
theorem lawTrue_any (g : Gau) (p : GPos) (x : Tru) (q : TPos) (t0 t1 t2 : Int) (w : World) (hok : GauOk w p g) (hx : TruOk w q x) (b00 : 0 ≤ t0) (b01 : t0 ≤ 255) (b10 : 0 ≤ t1) (b11 : t1 ≤ 255) (b20 : 0 ≤ t2) (b21 : t2 ≤ 255) :
    Calls Try.prog 12 #[.agg #[.string g.name, .int .i64 g.err, .int .i64 g.rate, .slice p.da g.ds.length p.dc, .slice p.ra g.rs.length p.rc], .agg #[.int .i64 x.from_, .int .i64 x.level, .slice q.ma x.mv.length q.mc, .slice q.ga x.gp.length q.gc, .slice q.sa x.sh.length q.sc, .slice q.ea x.er.length q.ec], .agg #[.int .u8 t0, .int .u8 t1, .int .u8 t2]] w
      fun e w' => e = .returned (.bool true) ∧ Below w.heap.size w w' := by
  have HH := hid hok; have HX := hid hx; clear hok hx
  by_cases hy : (0 ≤ x.from_ ∧ x.from_ ≤ 199800) ∧ x.mv.length < 150 ∧ -20000 ≤ x.level ∧ x.level ≤ 20000
  · obtain ⟨⟨y0, y1⟩, y2, y3, y4⟩ := hy
    have HY := hid (⟨y2, y3, y4⟩ : x.mv.length < 150 ∧ -20000 ≤ x.level ∧ x.level ≤ 20000)
    clear y2 y3 y4
    go_enter Try.func12, Try.ntmps12
    go_wp2_with fail
    generalize hW1 : World.alloc (World.alloc (World.alloc w _) _) _ = W1
    have B1 : Below w.heap.size w W1 := by rw [← hW1]; repeat (first | exact Below.refl _ _ | refine Below.alloc ?_ (by simp <;> omega) _)
    have S1 : W1.heap.size = w.heap.size + 3 := by rw [← hW1]; simp
    have X0 := hid (show W1.cell? ⟨w.heap.size + 1, 0, none⟩ = some (.int .i64 x.from_) by rw [← hW1]; simp [go_sem])
    have A0 := hid (show W1.cell? ⟨w.heap.size + 2, 0, none⟩ = some (.int .u8 t0) by rw [← hW1]; simp [go_sem])
    have A1 := hid (show W1.cell? ⟨w.heap.size + 2, 1, none⟩ = some (.int .u8 t1) by rw [← hW1]; simp [go_sem])
    have A2 := hid (show W1.cell? ⟨w.heap.size + 2, 2, none⟩ = some (.int .u8 t2) by rw [← hW1]; simp [go_sem])
    have HS1 := hid S1
    clear hW1 S1
    refine (made_yes g p x q _ (HH.out.later B1 (Nat.le_refl _)) (HX.out.later B1 (Nat.le_refl _)) y0 y1 HY.out.1 HY.out.2.1 HY.out.2.2).mono ?_
    rintro e W2 ⟨a, cap, L, p2, rs, rfl, hIn, hok2, hLl, hCh, hCm, B2⟩
    have HIn := hid hIn; have HO2 := hid hok2; have HLl := hid hLl; have HCh := hid hCh; have HCm := hid hCm
    clear hIn hok2 hLl hCh hCm
    have l2 : W1.heap.size ≤ W2.heap.size := B2.size
    obtain ⟨ck, hck⟩ : ∃ ck, gaugeP { g with rs := rs } = ck := ⟨_, rfl⟩
    have HCk := hid hck; clear hck
    go_wp2_with fail
    refine (checkY g rs p2 _ (HO2.out.later ((Below.refl _ _).alloc (Nat.le_refl _) _) (Nat.le_refl _)) ck HCk.out).mono ?_
    rintro e W3 ⟨rfl, B3⟩
    have BW3 : Below w.heap.size w W3 := ((B1.trans (B2.mono (by have := HS1.out; omega))).alloc (by have := HS1.out; omega) _).trans (B3.mono (by have := HS1.out; simp; omega))
    have l3 : W2.heap.size < W3.heap.size := by have := B3.size; simp at this; omega
    have lw : w.heap.size + 3 ≤ W2.heap.size := by have := HS1.out; omega
    have G23 : Below W2.heap.size W2 W3 := ((Below.refl _ _).alloc (Nat.le_refl _) _).trans (B3.mono (by simp))
    have e13 : ∀ b o, b < W1.heap.size → W3.cell? ⟨b, o, none⟩ = W1.cell? ⟨b, o, none⟩ := fun b o h => (G23.cell (p := ⟨b, o, none⟩) (by show b < _; omega)).trans (B2.cell (p := ⟨b, o, none⟩) h)
    have x0 := (e13 (w.heap.size + 1) 0 (by have := HS1.out; omega)).trans X0.out
    have a0 := (e13 (w.heap.size + 2) 0 (by have := HS1.out; omega)).trans A0.out
    have a1 := (e13 (w.heap.size + 2) 1 (by have := HS1.out; omega)).trans A1.out
    have a2 := (e13 (w.heap.size + 2) 2 (by have := HS1.out; omega)).trans A2.out
    have c0 : W3.cell? ⟨W2.heap.size, 0, none⟩ = some (.string g.name) := (B3.cell (p := ⟨W2.heap.size, 0, none⟩) (by simp)).trans (by simp [go_sem])
    have c1 : W3.cell? ⟨W2.heap.size, 1, none⟩ = some (.int .i64 g.err) := (B3.cell (p := ⟨W2.heap.size, 1, none⟩) (by simp)).trans (by simp [go_sem])
    have c2 : W3.cell? ⟨W2.heap.size, 2, none⟩ = some (.int .i64 g.rate) := (B3.cell (p := ⟨W2.heap.size, 2, none⟩) (by simp)).trans (by simp [go_sem])
    have c3 : W3.cell? ⟨W2.heap.size, 3, none⟩ = some (.slice p2.da g.ds.length p2.dc) := (B3.cell (p := ⟨W2.heap.size, 3, none⟩) (by simp)).trans (by simp [go_sem])
    have c4 : W3.cell? ⟨W2.heap.size, 4, none⟩ = some (.slice p2.ra rs.length p2.rc) := (B3.cell (p := ⟨W2.heap.size, 4, none⟩) (by simp)).trans (by simp [go_sem])
    have HO3 := hid (HO2.out.later G23 (Nat.le_refl _))
    have HIn3 := hid (HIn.out.later G23 (Nat.le_refl _))
    clear e13 X0 A0 A1 A2 B1 B2 B3 HO2 HIn G23
    by_cases hc : ck.2.2 = 0
    · have hc1 : (ck.2.2 != 0) = false := by simp [hc]
      have hL0 : 0 < L.length := by rw [HLl.out]; omega
      have hL1 : L.length ≤ 150 := by rw [HLl.out]; have := HY.out.1; omega
      have hl0 : ((L.length : Int) == 0) = false := by rw [beq_eq_false_iff_ne]; omega
      have hl1 : ¬ (L.length : Int) = 0 := by omega
      have hl2 : (0 : Int) < (L.length : Int) := by omega
      obtain ⟨i, hi, hmod⟩ : ∃ i : Nat, i < L.length ∧ t0 % (L.length : Int) = i := by
        have h1 := Int.emod_nonneg t0 hl1
        have h2 := Int.emod_lt_of_pos t0 hl2
        exact ⟨(t0 % (L.length : Int)).toNat, by omega, by omega⟩
      have htm : t0.tmod (L.length : Int) = i := by rw [Int.tmod_eq_emod_of_nonneg b00]; exact hmod
      obtain ⟨N, hN⟩ : ∃ N, x.from_ + t1 % 150 = N := ⟨_, rfl⟩
      have hNb : 0 ≤ N ∧ N ≤ 199949 := by omega
      obtain ⟨T, hT⟩ : ∃ T, min 200000 (N + t2) = T := ⟨_, rfl⟩
      have hTb : N ≤ T ∧ T ≤ 200000 := by omega
      obtain ⟨sa, hsa⟩ : ∃ s, saysP { g with rs := rs } (x.from_ + i) N = s := ⟨_, rfl⟩
      obtain ⟨sb, hsb⟩ : ∃ s, saysP { g with rs := rs } (x.from_ + i) T = s := ⟨_, rfl⟩
      have key := truth_both (g := { g with rs := rs }) (x := x.from_) (sh := x.sh) (L := L) (by rw [HCk.out]; exact hc) HX.out.sbd HCh.out (fun r hr => (HCm.out r hr).with) i hi ⟨y0, y1⟩ hL1 hNb.1 hTb.1 hTb.2 hsa hsb
      have HKey := hid key; have HSa := hid hsa; have HSb := hid hsb
      have hiI : (i : Int) < (L.length : Int) := by omega
      have hi150 : (i : Int) ≤ 150 := by omega
      have ln2 : W2.heap.size ≠ W3.heap.size := by omega
      obtain ⟨hNb1, hNb2⟩ := hNb
      clear key hsa hsb hc hTb hL0 hL1
      go_wp2_with fail
      refine (saysY g rs p2 (x.from_ + i) N sa _ HO3.out HSa.out).mono ?_
      rintro e W4 ⟨rfl, B4⟩
      have l4 : W3.heap.size ≤ W4.heap.size := B4.size
      have BW4 : Below w.heap.size w W4 := BW3.trans (B4.mono BW3.size)
      have x0 := (B4.cell (p := ⟨w.heap.size + 1, 0, none⟩) (by show w.heap.size + 1 < _; omega)).trans x0
      have c0 := (B4.cell (p := ⟨W2.heap.size, 0, none⟩) l3).trans c0
      have c1 := (B4.cell (p := ⟨W2.heap.size, 1, none⟩) l3).trans c1
      have c2 := (B4.cell (p := ⟨W2.heap.size, 2, none⟩) l3).trans c2
      have c3 := (B4.cell (p := ⟨W2.heap.size, 3, none⟩) l3).trans c3
      have c4 := (B4.cell (p := ⟨W2.heap.size, 4, none⟩) l3).trans c4
      have HO4 := hid (HO3.out.later B4 (Nat.le_refl _))
      have HIn4 := hid (HIn3.out.later B4 (Nat.le_refl _))
      have ln4 : W2.heap.size ≠ W4.heap.size := by omega
      have ln4' : w.heap.size + 1 ≠ W4.heap.size := by omega
      have ll4 : W2.heap.size < W4.heap.size := by omega
      have ll4' : w.heap.size + 1 < W4.heap.size := by omega
      clear B4 HO3 HIn3 BW3 a0 a1 a2 hmod htm hN hT hl0 hl1 hl2 ln2
      go_wp2_with fail
      refine (saysY g rs p2 (x.from_ + i) T sb _ (HO4.out.later ((Below.refl _ _).alloc (Nat.le_refl _) _) (Nat.le_refl _)) HSb.out).mono ?_
      rintro e W5 ⟨rfl, B5⟩
      have l5 : W4.heap.size < W5.heap.size := by have := B5.size; simp at this; omega
      have G45 : Below W4.heap.size W4 W5 := ((Below.refl _ _).alloc (Nat.le_refl _) _).trans (B5.mono (by simp))
      have BW5 : Below w.heap.size w W5 := BW4.trans (G45.mono (by omega))
      have p0 : W5.cell? ⟨W4.heap.size, 0, none⟩ = some (.int .i64 sa.1.1) := (B5.cell (p := ⟨W4.heap.size, 0, none⟩) (by simp)).trans (by simp [go_sem])
      have p1 : W5.cell? ⟨W4.heap.size, 1, none⟩ = some (.int .i64 sa.1.2) := (B5.cell (p := ⟨W4.heap.size, 1, none⟩) (by simp)).trans (by simp [go_sem])
      rcases HIn4.out.later G45 (Nat.le_refl _) with h0 | ⟨ib, io, ha, his, hic⟩
      · rw [h0] at hi; simp at hi
      have ic := hic i hi
      subst ha
      have HLi := hid (show L[i] = L[i] from rfl)
      clear x0 c0 c1 c2 c3 c4 ln4 ln4' ll4' B5 G45 HIn4 HO4 BW4 hic HLi
      generalize L[i] = li at *
      rcases HKey.out with ⟨k1, k2⟩ | ⟨k1, k2, k3, k4⟩ | ⟨k1, k2, ⟨k3, k4⟩, ⟨k5, k6⟩, k7, k8⟩
      all_goals
        clear HKey
        first
          | (have q1 : (sa.2 == 4) = true := by simp [k1])
          | (have q1 : (sa.2 == 4) = false := by simp [k1])
        first
          | (have q2 : (sb.2 == 4) = true := by simp [k2])
          | (have q2 : (sb.2 == 4) = false := by simp [k2])
        first
          | (have q3 : (sb.2 == 0) = true := by simp [k2])
          | (have q3 : (sb.2 == 0) = false := by simp [k2])
        first
          | (have q4 : (sa.2 == 0) = true := by simp [k1])
          | (have q4 : (sa.2 == 0) = false := by simp [k1])
        clear k1 k2
        go_wp2_with fail
        generalize hV : World.alloc W5 _ = V
        have BV : Below W5.heap.size W5 V := by rw [← hV]; exact (Below.refl _ _).alloc (Nat.le_refl _) _
        have lV : W5.heap.size < V.heap.size := by rw [← hV]; simp
        have o0 : V.cell? ⟨W5.heap.size, 0, none⟩ = some (.int .i64 sb.1.1) := by rw [← hV]; simp [go_sem]
        have o1 : V.cell? ⟨W5.heap.size, 1, none⟩ = some (.int .i64 sb.1.2) := by rw [← hV]; simp [go_sem]
        have p0 := (BV.cell (p := ⟨W4.heap.size, 0, none⟩) l5).trans p0
        have p1 := (BV.cell (p := ⟨W4.heap.size, 1, none⟩) l5).trans p1
        have ic := (BV.cell (p := ⟨ib, io + i, none⟩) his).trans ic
        have yo0 : ∀ X : Later V.heap.size V, X.wd.cell? ⟨W5.heap.size, 0, none⟩ = some (.int .i64 sb.1.1) := fun X => (X.below.cell (p := ⟨W5.heap.size, 0, none⟩) lV).trans o0
        have yo1 : ∀ X : Later V.heap.size V, X.wd.cell? ⟨W5.heap.size, 1, none⟩ = some (.int .i64 sb.1.2) := fun X => (X.below.cell (p := ⟨W5.heap.size, 1, none⟩) lV).trans o1
        have yp0 : ∀ X : Later V.heap.size V, X.wd.cell? ⟨W4.heap.size, 0, none⟩ = some (.int .i64 sa.1.1) := fun X => (X.below.cell (p := ⟨W4.heap.size, 0, none⟩) (by show W4.heap.size < _; omega)).trans p0
        have yp1 : ∀ X : Later V.heap.size V, X.wd.cell? ⟨W4.heap.size, 1, none⟩ = some (.int .i64 sa.1.2) := fun X => (X.below.cell (p := ⟨W4.heap.size, 1, none⟩) (by show W4.heap.size < _; omega)).trans p1
        have yi : ∀ X : Later V.heap.size V, X.wd.cell? ⟨ib, io + i, none⟩ = some (.int .i64 li) := fun X => (X.below.cell (p := ⟨ib, io + i, none⟩) (by show ib < _; omega)).trans ic
        clear hV o0 o1 p0 p1 ic
        refine wp_region_grow V.heap.size (by kernel_rfl) (by kernel_rfl) ?_
        repeat (go_big_quiet_step (first
          | (go_at_call 44; exact later_grow (Nat.le_refl _) (has_yes _ _ _ _ (by assumption) (by assumption)))
          | (go_at_call 45; exact later_grow (Nat.le_refl _) (within_yes _ _ _ _ _ (by assumption) (by assumption)))
          | (go_at_call 22; exact later_grow (Nat.le_refl _) (awake_any _))))
        refine wpQuiet_nil ?_
        rintro wx ⟨⟨_, hbx⟩, rfl⟩
        clear yo0 yo1 yp0 yp1 yi
        go_wp2_with fail
        go_ret
        exact ⟨rfl, BW5.trans ((BV.mono BW5.size).trans (hbx.mono (by have := BW5.size; omega)))⟩
    · have hc1 : (ck.2.2 != 0) = true := by simp [hc]
      clear hc
      go_wp2_with fail
      refine (awake_any _).mono ?_
      rintro e W5 ⟨rfl, B5⟩
      go_wp2_with fail
      go_ret
      exact ⟨rfl, BW3.trans (B5.mono BW3.size)⟩
  · have hno : x.from_ < 0 ∨ (0 ≤ x.from_ ∧ 199800 < x.from_) ∨ ((0 ≤ x.from_ ∧ x.from_ ≤ 199800) ∧ 150 ≤ x.mv.length) ∨ ((0 ≤ x.from_ ∧ x.from_ ≤ 199800) ∧ x.mv.length < 150 ∧ x.level < -20000) ∨ ((0 ≤ x.from_ ∧ x.from_ ≤ 199800) ∧ x.mv.length < 150 ∧ -20000 ≤ x.level ∧ 20000 < x.level) := by omega
    have HNo := hid hno
    clear hno hy
    obtain ⟨ck, hck⟩ : ∃ ck, gaugeP g = ck := ⟨_, rfl⟩
    have HCk := hid hck; clear hck
    go_enter Try.func12, Try.ntmps12
    go_wp2_with fail
    generalize hW1 : World.alloc (World.alloc (World.alloc w _) _) _ = W1
    have B1 : Below w.heap.size w W1 := by rw [← hW1]; repeat (first | exact Below.refl _ _ | refine Below.alloc ?_ (by simp <;> omega) _)
    clear hW1
    refine (made_no g p x q _ (HX.out.later B1 (Nat.le_refl _)) HNo.out).mono ?_
    rintro e W2 ⟨rfl, B2⟩
    have B12 := B1.trans (B2.mono B1.size)
    clear B1 B2
    go_wp2_with fail
    refine (show Calls Try.prog 28 _ _ _ from (by rw [← HCk.out]; exact checkGauge_any g p _ (HH.out.later (B12.alloc (by have := B12.size; omega) _) (Nat.le_refl _)) : Calls Try.prog 28 #[.agg #[.string g.name, .int .i64 g.err, .int .i64 g.rate, .slice p.da g.ds.length p.dc, .slice p.ra g.rs.length p.rc]] _ fun e w' => e = .returned (.tuple #[.int .i64 ck.1, .int .i64 ck.2.1, .int .i64 ck.2.2]) ∧ Below _ _ w')).mono ?_
    rintro e W3 ⟨rfl, B3⟩
    have BW3 : Below w.heap.size w W3 := (B12.alloc (by have := B12.size; omega) _).trans (B3.mono (by have := B12.size; simp; omega))
    clear B3
    go_wp2_with fail
    refine (awake_any _).mono ?_
    rintro e W5 ⟨rfl, B5⟩
    go_wp2_with fail
    go_ret
    exact ⟨rfl, BW3.trans (B5.mono BW3.size)⟩
end Go.Proofs.Ytfjankkkeehioaa
