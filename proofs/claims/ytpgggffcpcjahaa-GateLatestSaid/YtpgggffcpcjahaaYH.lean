/- Gate, part YH: Delay where the lengths do not fit. -/
import Derived.Test.YtpgggffcpcjahaaWP
import Derived.Deep.Cut
set_option linter.all false
namespace Go.Proofs.Ytpgggffcpcjahaa
open Go.RowKit

set_option maxRecDepth 20000 in
set_option maxHeartbeats 400000 in
/-- first, where the first check finds something: the others are not looked at. -/
theorem first_short (B : Nat) (w0 : World) (p0 : Int × Int) (b o m cap : Nat) (K : FuncId) (cs : Array Value) (w : World) (hm : 0 < m) (hB : B ≤ w.heap.size) (hw0 : Below B w0 w) (hb : b < w.heap.size)
    (hc : w.cell? ⟨b, o, none⟩ = some (.func (.func K) #[] cs)) (hk : Chk B w0 K cs p0) (hp : p0.2 ≠ 0) :
    Calls Try.prog 37 #[.slice (some ⟨b, o, none⟩) m cap] w fun e w' => e = .returned (.tuple #[.int .i64 1, .int .i64 p0.1, .int .i64 p0.2]) ∧ Below w.heap.size w w' := by
  have HC := hid hc; clear hc
  have HK := hid hk; clear hk
  obtain ⟨x, y⟩ := p0
  dsimp only at hp HK ⊢
  have hy : (y != 0) = true := by simp [hp]
  clear hp
  go_enter Try.func37, Try.ntmps37
  go_wp2_with fail
  go_loopw [5,6,7,8,11] (fun a b c d i wr => i = .int .i64 ((0 : Nat) : Int) ∧ Below w.heap.size w wr) (fun _ _ _ _ _ _ => 0)
  case atStart => exact ⟨rfl, Below.refl _ _⟩
  case round =>
    obtain ⟨rfl, hbw⟩ := hrel
    obtain ⟨hcall, hC⟩ := HK.out
    have hcell : wr.cell? ⟨b, o, none⟩ = some (.func (.func K) #[] cs) := by rw [hbw.cell (p := ⟨b, o, none⟩) hb]; exact HC.out
    have HD := hid (hC wr (hw0.trans (hbw.mono hB)));  clear hC
    have hmI : (0 : Int) < (m : Int) := by omega
    go_wp2_with fail
    refine (HD.out).mono ?_
    rintro e w' ⟨rfl, hb'⟩
    go_wp2_with fail
    exact bodyPost_ret (v := .tuple #[.int .i64 1, .int .i64 x, .int .i64 y]) (by simp [results, Try.results37, go_sem]) rfl ⟨rfl, hbw.trans (hb'.mono hbw.size)⟩
/-- each: a function value, whatever it would say. -/
theorem each_mk (n : Int) (K : FuncId) (caps : Array Value) (w : World) :
    Calls Try.prog 81 #[.int .i64 n, .func (.func K) #[] caps] w fun e w' => ∃ caps, e = .returned (.func (.func 112) #[] caps) ∧ Below w.heap.size w w' := by
  go_enter Try.func81, Try.ntmps81
  go_wp2
  go_ret
  exact ⟨_, rfl, ((Below.refl _ _).alloc (Nat.le_refl _) _).alloc (by simp) _⟩
set_option maxRecDepth 100000 in
set_option maxHeartbeats 4000000 in
theorem stepsErrorNe_any (ga sa ta ha ra : Option Addr) (rl gc sc tc hc rc n ns nt nh : Nat) (w : World) (hne : ¬ (ns = n ∧ nt = n ∧ nh = n)) :
    Calls Try.prog 70 #[.agg #[.slice ga n gc, .slice ra rl rc], .slice sa ns sc, .slice ta nt tc, .slice ha nh hc] w fun e w' => e = .returned (.int .i64 2) ∧ Below w.heap.size w w' := by
  have B1 : Below w.heap.size w (((w.alloc (.cells #[.slice ga n gc, .slice ra rl rc] 25)).alloc (.cells #[.slice sa ns sc] 58)).alloc (.cells #[.slice ta nt tc] 63)) := (((Below.refl _ _).alloc (Nat.le_refl _) _).alloc (by simp) _).alloc (by simp <;> omega) _
  have c0 : (((w.alloc (.cells #[.slice ga n gc, .slice ra rl rc] 25)).alloc (.cells #[.slice sa ns sc] 58)).alloc (.cells #[.slice ta nt tc] 63)).cell? ⟨w.heap.size, 0, none⟩ = some (.slice ga n gc) := by simp [go_sem]
  have c1 : (((w.alloc (.cells #[.slice ga n gc, .slice ra rl rc] 25)).alloc (.cells #[.slice sa ns sc] 58)).alloc (.cells #[.slice ta nt tc] 63)).cell? ⟨w.heap.size + 1, 0, none⟩ = some (.slice sa ns sc) := by simp [go_sem]
  have c2 : (((w.alloc (.cells #[.slice ga n gc, .slice ra rl rc] 25)).alloc (.cells #[.slice sa ns sc] 58)).alloc (.cells #[.slice ta nt tc] 63)).cell? ⟨w.heap.size + 1 + 1, 0, none⟩ = some (.slice ta nt tc) := by simp [go_sem]
  go_enter Try.func70, Try.ntmps70
  go_upto_region 1 with fail
  generalize World.alloc (World.alloc (World.alloc w _) _) _ = W1 at *
  rcases (show ns ≠ n ∨ (ns = n ∧ nt ≠ n) ∨ (ns = n ∧ nt = n ∧ nh ≠ n) by omega) with h | ⟨h, h2⟩ | ⟨h, h2, h3⟩
  · have d1 : ((ns : Int) == (n : Int)) = false := by simp; omega
    clear hne h
    go_wp2_with fail
    refine (must_any false 0 2 _).mono ?_
    rintro e w1 ⟨caps, rfl, hb, hchk⟩
    go_wp2_with fail
    refine (each_mk _ _ _ _).mono ?_
    rintro e w2 ⟨caps2, rfl, hb2⟩
    go_wp2_with fail
    have hA : Below w2.heap.size w2 (w2.alloc (.cells #[.func (.func 111) #[] caps, .func (.func 112) #[] caps2] 122)) := (Below.refl _ _).alloc (Nat.le_refl _) _
    refine (first_short w2.heap.size (w2.alloc (.cells #[.func (.func 111) #[] caps, .func (.func 112) #[] caps2] 122)) (mustP false 0 2) w2.heap.size 0 2 2 111 caps _ (by omega) (by simp) (Below.refl _ _) (by simp) (by simp [go_sem]) ((hchk.at hb2).later hA) (by decide)).mono ?_
    rintro e w3 ⟨rfl, hb3⟩
    have q1 := hb.size
    have q2 := hb2.size
    have hs1 := B1.size
    have hfin := (((B1.trans (hb.mono (by omega))).trans (hb2.mono (by omega))).alloc (by omega) _).trans (hb3.mono (by simp <;> omega))
    go_wp2_with fail
    go_ret
    exact ⟨rfl, hfin⟩
  · have d1 : ((ns : Int) == (n : Int)) = true := by simp; omega
    have d2 : ((nt : Int) == (n : Int)) = false := by simp; omega
    clear hne h h2
    go_wp2_with fail
    refine (must_any false 0 2 _).mono ?_
    rintro e w1 ⟨caps, rfl, hb, hchk⟩
    go_wp2_with fail
    refine (each_mk _ _ _ _).mono ?_
    rintro e w2 ⟨caps2, rfl, hb2⟩
    go_wp2_with fail
    have hA : Below w2.heap.size w2 (w2.alloc (.cells #[.func (.func 111) #[] caps, .func (.func 112) #[] caps2] 122)) := (Below.refl _ _).alloc (Nat.le_refl _) _
    refine (first_short w2.heap.size (w2.alloc (.cells #[.func (.func 111) #[] caps, .func (.func 112) #[] caps2] 122)) (mustP false 0 2) w2.heap.size 0 2 2 111 caps _ (by omega) (by simp) (Below.refl _ _) (by simp) (by simp [go_sem]) ((hchk.at hb2).later hA) (by decide)).mono ?_
    rintro e w3 ⟨rfl, hb3⟩
    have q1 := hb.size
    have q2 := hb2.size
    have hs1 := B1.size
    have hfin := (((B1.trans (hb.mono (by omega))).trans (hb2.mono (by omega))).alloc (by omega) _).trans (hb3.mono (by simp <;> omega))
    go_wp2_with fail
    go_ret
    exact ⟨rfl, hfin⟩
  · have d1 : ((ns : Int) == (n : Int)) = true := by simp; omega
    have d2 : ((nt : Int) == (n : Int)) = true := by simp; omega
    have d3 : ((nh : Int) == (n : Int)) = false := by simp; omega
    clear hne h h2 h3
    go_wp2_with fail
    refine (must_any false 0 2 _).mono ?_
    rintro e w1 ⟨caps, rfl, hb, hchk⟩
    go_wp2_with fail
    refine (each_mk _ _ _ _).mono ?_
    rintro e w2 ⟨caps2, rfl, hb2⟩
    go_wp2_with fail
    have hA : Below w2.heap.size w2 (w2.alloc (.cells #[.func (.func 111) #[] caps, .func (.func 112) #[] caps2] 122)) := (Below.refl _ _).alloc (Nat.le_refl _) _
    refine (first_short w2.heap.size (w2.alloc (.cells #[.func (.func 111) #[] caps, .func (.func 112) #[] caps2] 122)) (mustP false 0 2) w2.heap.size 0 2 2 111 caps _ (by omega) (by simp) (Below.refl _ _) (by simp) (by simp [go_sem]) ((hchk.at hb2).later hA) (by decide)).mono ?_
    rintro e w3 ⟨rfl, hb3⟩
    have q1 := hb.size
    have q2 := hb2.size
    have hs1 := B1.size
    have hfin := (((B1.trans (hb.mono (by omega))).trans (hb2.mono (by omega))).alloc (by omega) _).trans (hb3.mono (by simp <;> omega))
    go_wp2_with fail
    go_ret
    exact ⟨rfl, hfin⟩
set_option maxRecDepth 100000 in
set_option maxHeartbeats 8000000 in
theorem delayNe_any (ga sa ra : Option Addr) (gs : List Gt) (rs : List Ru) (gc sc rc n : Nat) (ps : Nat → GtP) (o i : Int) (p : Bool) (w : World) (hn : gs.length = n) (hok : SetOk w ⟨ga, gs, gc, ps, ra, rs, rc⟩) (ns : Nat) (hne : ns ≠ n) :
    Calls Try.prog 36 #[.agg #[.slice ga n gc, .slice ra rs.length rc],   .slice sa ns sc, .int .i64 o, .int .i64 i, .bool p] w fun e w' => (∃ x : Int, x ≠ 0 ∧ e = .returned (.tuple #[.int .i64 0, .int .i64 x])) ∧ Below w.heap.size w w' := by
  have HGd := hid (fun h => setGood (gs := gs) (rs := rs) h)
  have HOk := hid hok; have HLg := hid hn; have HNe := hid hne
  have B1 : Below w.heap.size w (w.alloc (.cells #[.slice ga n gc, .slice ra rs.length rc] 25)) := (Below.refl _ _).alloc (Nat.le_refl _) _
  have z0 : (w.alloc (.cells #[.slice ga n gc, .slice ra rs.length rc] 25)).cell? ⟨w.heap.size, 0, none⟩ = some (.slice ga n gc) := by simp [go_sem]
  have z1 : (w.alloc (.cells #[.slice ga n gc, .slice ra rs.length rc] 25)).cell? ⟨w.heap.size, 1, none⟩ = some (.slice ra rs.length rc) := by simp [go_sem]
  have sw : w.heap.size < (w.alloc (.cells #[.slice ga n gc, .slice ra rs.length rc] 25)).heap.size := by simp
  have HC := hid (fun W (hW : Below w.heap.size w W) => checkSet_any ⟨ga, gs, gc, ps, ra, rs, rc⟩ W (HOk.out.later hW (Nat.le_refl _)))
  dsimp only at HC
  rw [hn] at HC
  clear hok hn hne
  obtain ⟨i0, hi, hz0, hz1, hz2⟩ := info_parts Try.infoBool
  go_enter Try.func36, Try.ntmps36
  go_wp2_with fail
  generalize World.alloc w _ = W1 at *
  refine (HC.out _ B1).mono ?_
  rintro e w1 ⟨rfl, hb⟩
  obtain ⟨BW, z0, z1, sw⟩ := keepDl hb ⟨B1, z0, z1, sw⟩
  clear HC B1 hb
  generalize setP gs rs = x at *
  by_cases hx : x.2.2 = 0
  · have q : (x.2.2 != 0) = false := by simp [hx]
    have HX := hid hx
    have HG := hid (HGd.out hx)
    have hn16 : 1 ≤ n ∧ n ≤ 6 := by have := HG.out.glen; rw [HLg.out] at this; exact this
    have HN := hid hn16
    clear hx
    go_wp2_with fail
    refine wp_region_noPanic ?_
    refine wp_region_held_drew (S := (fun w' => Below w.heap.size w w' ∧ w'.cell? ⟨w.heap.size, 0, none⟩ = some (.slice ga n gc) ∧ w'.cell? ⟨w.heap.size, 1, none⟩ = some (.slice ra rs.length rc) ∧ w.heap.size < w'.heap.size)) (by kernel_rfl) ?_ (fun hHeld => ?_)
    · exact ⟨BW.drew, by simpa using z0, by simpa using z1, by simpa using sw⟩
    refine wpAnyH_take (i := 0) (oi := { dst := _, op := _, type := _, pos := _, after := _, guard := _ }) (v := ?_) rfl (by kernel_rfl) (by kernel_rfl) (by kernel_rfl) (fun _ _ _ h => h) (Or.inl ⟨by rfl, ?_⟩) (by assumption) ?_
    rotate_left
    · intro wS hSw; (try dsimp only at hSw); go_simp; try (with_reducible rfl)
    try simp only [Act.put, List.setIfInBounds_toArray, List.set_cons_zero, List.set_cons_succ]
    refine wpAnyH_take (i := 1) (oi := { dst := _, op := _, type := _, pos := _, after := _, guard := _ }) (v := ?_) rfl (by kernel_rfl) (by kernel_rfl) (by kernel_rfl) (fun _ _ _ h => h) (Or.inl ⟨by rfl, ?_⟩) (by assumption) ?_
    rotate_left
    · intro wS hSw; (try dsimp only at hSw); go_simp; try (with_reducible rfl)
    try simp only [Act.put, List.setIfInBounds_toArray, List.set_cons_zero, List.set_cons_succ]
    refine wpAnyH_take (i := 2) (oi := { dst := _, op := _, type := _, pos := _, after := _, guard := _ }) (v := ?_) rfl (by kernel_rfl) (by kernel_rfl) (by kernel_rfl) (fun _ _ _ h => h) (Or.inl ⟨by rfl, ?_⟩) (by assumption) ?_
    rotate_left
    · intro wS hSw; (try dsimp only at hSw); go_simp; try (with_reducible rfl)
    try simp only [Act.put, List.setIfInBounds_toArray, List.set_cons_zero, List.set_cons_succ]
    refine wpAnyH_take (i := 5) (oi := { dst := _, op := _, type := _, pos := _, after := _, guard := _ }) (v := ?_) rfl (by kernel_rfl) (by kernel_rfl) (by kernel_rfl) (fun _ _ _ h => h) (Or.inl ⟨by rfl, ?_⟩) (by assumption) ?_
    rotate_left
    · intro wS hSw; (try dsimp only at hSw); go_simp; try (with_reducible rfl)
    try simp only [Act.put, List.setIfInBounds_toArray, List.set_cons_zero, List.set_cons_succ]
    refine wpAnyH_take (i := 6) (oi := { dst := _, op := _, type := _, pos := _, after := _, guard := _ }) (v := ?_) rfl (by kernel_rfl) (by kernel_rfl) (by kernel_rfl) (fun _ _ _ h => h) (Or.inl ⟨by rfl, ?_⟩) (by assumption) ?_
    rotate_left
    · intro wS hSw; (try dsimp only at hSw); go_simp; try (with_reducible rfl)
    try simp only [Act.put, List.setIfInBounds_toArray, List.set_cons_zero, List.set_cons_succ]
    refine wpAnyH_take (i := 7) (oi := { dst := _, op := _, type := _, pos := _, after := _, guard := _ }) (v := ?_) rfl (by kernel_rfl) (by kernel_rfl) (by kernel_rfl) (fun _ _ _ h => h) (Or.inl ⟨by rfl, ?_⟩) (by assumption) ?_
    rotate_left
    · intro wS hSw; (try dsimp only at hSw); go_simp; try (with_reducible rfl)
    try simp only [Act.put, List.setIfInBounds_toArray, List.set_cons_zero, List.set_cons_succ]
    refine wpAnyH_ready (rs := [3]) (by kernel_rfl) (by simp) ?_
    refine AllReadyH.cons (o := { dst := _, op := _, type := _, pos := _, after := _, guard := _ }) rfl (fun K hK => ?_) AllReadyH.nil
    go_simp
    (go_at_call 65; (with_reducible refine (toClose_any o i p _).mono ?_); rintro e w' ⟨rfl, hbe⟩; have HRb := hid (range_alloc w' (spL (toCloseT o i p)) 50))
    try go_wp2_with fail
    refine hK.out _ _ ?_ (fun hHeld => ?_)
    · (try dsimp only); first | exact keepDl (by assumption) hHeld | exact keepDl ((Below.refl _ _).alloc (Nat.le_refl _) _) hHeld
    clear hK K
    try simp only [Act.put, List.setIfInBounds_toArray, List.set_cons_zero, List.set_cons_succ]
    refine wpAnyH_ready (rs := [4]) (by kernel_rfl) (by simp) ?_
    refine AllReadyH.cons (o := { dst := _, op := _, type := _, pos := _, after := _, guard := _ }) rfl (fun K hK => ?_) AllReadyH.nil
    go_simp
    refine hK.out _ _ ?_ (fun hHeld => ?_)
    · (try dsimp only); first | exact keepDl (by assumption) hHeld | exact keepDl ((Below.refl _ _).alloc (Nat.le_refl _) _) hHeld
    clear hK K
    try simp only [Act.put, List.setIfInBounds_toArray, List.set_cons_zero, List.set_cons_succ]
    refine wpAnyH_ready (rs := [8]) (by kernel_rfl) (by simp) ?_
    refine AllReadyH.cons (o := { dst := _, op := _, type := _, pos := _, after := _, guard := _ }) rfl (fun K hK => ?_) AllReadyH.nil
    go_simp
    (go_at_call 84; obtain ⟨V, hV⟩ : ∃ V, V = w' := ⟨_, rfl⟩; subst hV; refine (repeat_any V.heap.size n (toCloseT o i p) _ hn16 (by simp) HRb.out).mono ?_; rintro e w' ⟨A, rfl, hA, hrep, hbe⟩)
    try go_wp2_with fail
    refine hK.out _ _ ?_ (fun hHeld => ?_)
    · (try dsimp only); first | exact keepDl (by assumption) hHeld | exact keepDl ((Below.refl _ _).alloc (Nat.le_refl _) _) hHeld
    clear hK K
    try simp only [Act.put, List.setIfInBounds_toArray, List.set_cons_zero, List.set_cons_succ]
    refine wpAnyH_take (i := 9) (oi := { dst := _, op := _, type := _, pos := _, after := _, guard := _ }) (v := ?_) rfl (by kernel_rfl) (by kernel_rfl) (by kernel_rfl) (fun _ _ _ h => h) (Or.inl ⟨by rfl, ?_⟩) (by assumption) ?_
    rotate_left
    · intro wS hSw; (try dsimp only at hSw); go_simp; try (with_reducible rfl)
    try simp only [Act.put, List.setIfInBounds_toArray, List.set_cons_zero, List.set_cons_succ]
    refine wpAnyH_done (by kernel_rfl) ?_ _
    refine NoPanic.normal ?_

    obtain ⟨BW2, y0, y1, sw2⟩ := (by assumption : Below w.heap.size w _ ∧ _ ∧ _ ∧ _)
    obtain ⟨W4, hW4⟩ : ∃ X, X = w' := ⟨_, rfl⟩
    subst hW4
    have HTs := hid (rows_rep hA hrep)
    obtain ⟨t, ht⟩ : ∃ t, toCloseT o i p = t := ⟨_, rfl⟩
    rw [ht] at HTs
    clear z0 z1 sw hrep HRb hbe hHeld ht BW hA
    go_wp2_with (at_make; refine wpList_make_full _ rfl _ _ _ rfl W4.heap.size 4 i0 (.bool false) 1 Try.underlying64 hi hz0 hz1 .i64 .i64 _ _ n rfl rfl rfl rfl (by rw [hz2]; omega) (by unfold maxLen; omega) (Nat.le_refl _) ?_; intro W5 hown hgrow; have x0 : W5.cell? ⟨w.heap.size, 0, none⟩ = some (.slice ga n gc) := hgrow.cell y0 (by simp); have x1 : W5.cell? ⟨w.heap.size, 1, none⟩ = some (.slice ra rs.length rc) := hgrow.cell y1 (by simp))
    have B5 : Below W4.heap.size W4 W5 := (Below.refl _ _).grown hgrow (Nat.le_refl _) (by intro k e; cases e)
    have BW5 := BW2.trans (B5.mono BW2.size)
    have S5 : W4.heap.size < W5.heap.size := (hown.lt _ rfl).2
    have HHs := hid (rows_no (n := n) S5 (fun j hj => by rw [hown.cellAt j (by omega), show (Value.bool false).cells = #[Value.bool false] from rfl, toList_madeCells_one, Nat.mul_one, List.getElem?_replicate, if_pos hj]))
    have HT5 := hid (HTs.out.later B5 (Nat.le_refl _))
    generalize W4.heap.size = C at *
    clear hown hgrow hi hz0 hz1 hz2 B5 BW2 y0 y1 HTs
    have sw5 := Nat.lt_of_lt_of_le sw2 (Nat.le_refl _)
    refine (stepsErrorNe_any ga sa (some ⟨A, 0, none⟩) (some ⟨C, 0, none⟩) ra rs.length gc sc n n rc n ns n n W5 (by have := HNe.out; omega)).mono ?_
    rintro e w6 ⟨rfl, hb6⟩
    have BW6 := BW5.trans (hb6.mono BW5.size)
    have q2 : ((2 : Int) != 0) = true := by decide
    go_wp2_with fail
    go_ret2
    exact ⟨⟨2, by decide, rfl⟩, BW6⟩
  · have q : (x.2.2 != 0) = true := by simp [hx]
    have HX := hid hx
    clear hx
    go_wp2_with fail
    go_ret2
    exact ⟨⟨_, HX.out, rfl⟩, BW⟩
end Go.Proofs.Ytpgggffcpcjahaa
