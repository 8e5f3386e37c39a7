/- Tide, part GE: TideFitted's walk. -/
import Derived.Test.YtfjankkkeehioaaGD
import Derived.Test.YtfjankkkeehioaaGF
import Derived.Test.YtfjankkkeehioaaFB
import Derived.Deep.RegionHeld3
import Derived.Deep.AppendLies
import Derived.OwnWalk
import Derived.Laws.Pointers
set_option linter.all false
namespace Go.Proofs.Ytfjankkkeehioaa
open Go.RowKit

theorem A.infoSpan : (Try.prog.info? 32).map (fun i => (i.zero, i.size, i.bytes)) = some (some (.agg #[.int .i64 0, .int .i64 0]), 2, 16) := by kernel_rfl
theorem fitY (g : Gau) (rs : List Rdg) (p : GPos) (n x : Int) (la : Option Addr) (lc m : Nat) (S : List (Int × Int)) (s : (Int × Int) × Int) (w : World) (hok : GauOk w p { g with rs := rs }) (hm : S.length = m) (hll : S.length ≤ 140737488355328) (hS : SpansAt w la S) (hs : fitP { g with rs := rs } n x S = s) :
    Calls Try.prog 37 #[.agg #[.string g.name, .int .i64 g.err, .int .i64 g.rate, .slice p.da g.ds.length p.dc, .slice p.ra rs.length p.rc], .int .i64 n, .int .i64 x, .slice la m lc] w
      fun e w' => e = .returned (.tuple #[.agg #[.int .i64 s.1.1, .int .i64 s.1.2], .int .i64 s.2]) ∧ Below w.heap.size w w' := by
  subst hm; rw [← hs]; exact fitFn_any { g with rs := rs } p n x la lc S w hok hll hS
theorem two_first {w0 w1 : World} {base : Nat} {T : TypeId} {sz g m : Nat} {v u : Value} {ys : List Value} (hu : w0.ownsRow base T sz u m ys) (hD : v.ownBlock = none ∨ v.ownBlock ≠ u.ownBlock)
    (hg : w0.grownBy w1 v.ownBlock) (hat : v.ownBlock = some g ∨ g = w0.heap.size) : w1.ownsRow base T sz u m ys ∧ some g ≠ u.ownBlock := by
  refine ⟨hu.kept hg ?_, ?_⟩
  · rcases hD with h | h
    · cases hu0 : u.ownBlock with
      | none => exact .inl rfl
      | some k => right; rw [h]; simp
    · exact .inr fun h' => h h'.symm
  · intro h
    rcases hat with h1 | h1
    · rcases hD with h2 | h2
      · rw [h1] at h2; cases h2
      · exact h2 (h1.trans h)
    · have := (hu.lt _ h.symm).2
      omega
theorem two_second {w0 w1 : World} {base : Nat} {T : TypeId} {sz g n : Nat} {v u : Value} {ys : List Value} (hv : w0.ownsRow base T sz v n ys) (hD : v.ownBlock ≠ u.ownBlock)
    (hg : w0.grownBy w1 u.ownBlock) (hat : u.ownBlock = some g ∨ g = w0.heap.size) : w1.ownsRow base T sz v n ys ∧ v.ownBlock ≠ some g := by
  refine ⟨hv.kept hg (.inr hD), fun h => ?_⟩
  rcases hat with h1 | h1
  · exact hD (h.trans h1.symm)
  · have := (hv.lt _ h).2
    omega

set_option maxRecDepth 100000 in
set_option maxHeartbeats 8000000 in
theorem lawFitted_any (g : Gau) (p : GPos) (x : Tru) (q : TPos) (t0 t1 : Int) (w : World) (hok : GauOk w p g) (hx : TruOk w q x) (b00 : 0 ≤ t0) (b01 : t0 ≤ 255) (b10 : 0 ≤ t1) (b11 : t1 ≤ 255) :
    Calls Try.prog 17 #[.agg #[.string g.name, .int .i64 g.err, .int .i64 g.rate, .slice p.da g.ds.length p.dc, .slice p.ra g.rs.length p.rc], .agg #[.int .i64 x.from_, .int .i64 x.level, .slice q.ma x.mv.length q.mc, .slice q.ga x.gp.length q.gc, .slice q.sa x.sh.length q.sc, .slice q.ea x.er.length q.ec], .agg #[.int .u8 t0, .int .u8 t1]] w
      fun e w' => e = .returned (.bool true) ∧ Below w.heap.size w w' := by
  have HH := hid hok; have HX := hid hx; clear hok hx
  by_cases hy : (0 ≤ x.from_ ∧ x.from_ ≤ 199800) ∧ x.mv.length < 150 ∧ -20000 ≤ x.level ∧ x.level ≤ 20000
  · obtain ⟨⟨y0, y1⟩, y2, y3, y4⟩ := hy
    have HY := hid (⟨y2, y3, y4⟩ : x.mv.length < 150 ∧ -20000 ≤ x.level ∧ x.level ≤ 20000)
    clear y2 y3 y4
    go_enter Try.func17, Try.ntmps17
    go_wp2_with fail
    generalize hW1 : World.alloc (World.alloc (World.alloc w _) _) _ = W1
    have B1 : Below w.heap.size w W1 := by rw [← hW1]; repeat (first | exact Below.refl _ _ | refine Below.alloc ?_ (by simp <;> omega) _)
    have S1 : W1.heap.size = w.heap.size + 3 := by rw [← hW1]; simp
    have X0 := hid (show W1.cell? ⟨w.heap.size + 1, 0, none⟩ = some (.int .i64 x.from_) by rw [← hW1]; simp [go_sem])
    have A0 := hid (show W1.cell? ⟨w.heap.size + 2, 0, none⟩ = some (.int .u8 t0) by rw [← hW1]; simp [go_sem])
    have A1 := hid (show W1.cell? ⟨w.heap.size + 2, 1, none⟩ = some (.int .u8 t1) by rw [← hW1]; simp [go_sem])
    have X4 := hid (show W1.cell? ⟨w.heap.size + 1, 4, none⟩ = some (.slice q.sa x.sh.length q.sc) by rw [← hW1]; simp [go_sem])
    have HS1 := hid S1
    clear hW1 S1
    refine (made_yes g p x q _ (HH.out.later B1 (Nat.le_refl _)) (HX.out.later B1 (Nat.le_refl _)) y0 y1 HY.out.1 HY.out.2.1 HY.out.2.2).mono ?_
    rintro e W2 ⟨a, cap, L, p2, rs, rfl, hIn, hok2, hLl, hCh, hCm, B2⟩
    have HIn := hid hIn; have HO2 := hid hok2; have HLl := hid hLl; have HCh := hid hCh; have HCm := hid hCm
    clear hIn hok2 hLl hCh hCm
    have l2 : W1.heap.size ≤ W2.heap.size := B2.size
    obtain ⟨ck, hck⟩ : ∃ ck, gaugeP { g with rs := rs } = ck := ⟨_, rfl⟩
    have HCk := hid hck; clear hck
    go_wp2_with fail
    refine (checkY g rs p2 _ (HO2.out.later ((Below.refl _ _).alloc (Nat.le_refl _) _) (Nat.le_refl _)) ck HCk.out).mono ?_
    rintro e W3 ⟨rfl, B3⟩
    have BW3 : Below w.heap.size w W3 := ((B1.trans (B2.mono (by have := HS1.out; omega))).alloc (by have := HS1.out; omega) _).trans (B3.mono (by have := HS1.out; simp; omega))
    have l3 : W2.heap.size < W3.heap.size := by have := B3.size; simp at this; omega
    have lw : w.heap.size + 3 ≤ W2.heap.size := by have := HS1.out; omega
    have G23 : Below W2.heap.size W2 W3 := ((Below.refl _ _).alloc (Nat.le_refl _) _).trans (B3.mono (by simp))
    have e13 : ∀ b o, b < W1.heap.size → W3.cell? ⟨b, o, none⟩ = W1.cell? ⟨b, o, none⟩ := fun b o h => (G23.cell (p := ⟨b, o, none⟩) (by show b < _; omega)).trans (B2.cell (p := ⟨b, o, none⟩) h)
    have x0 := (e13 (w.heap.size + 1) 0 (by have := HS1.out; omega)).trans X0.out
    have a0 := (e13 (w.heap.size + 2) 0 (by have := HS1.out; omega)).trans A0.out
    have a1 := (e13 (w.heap.size + 2) 1 (by have := HS1.out; omega)).trans A1.out
    have x4 := (e13 (w.heap.size + 1) 4 (by have := HS1.out; omega)).trans X4.out
    have c0 : W3.cell? ⟨W2.heap.size, 0, none⟩ = some (.string g.name) := (B3.cell (p := ⟨W2.heap.size, 0, none⟩) (by simp)).trans (by simp [go_sem])
    have c1 : W3.cell? ⟨W2.heap.size, 1, none⟩ = some (.int .i64 g.err) := (B3.cell (p := ⟨W2.heap.size, 1, none⟩) (by simp)).trans (by simp [go_sem])
    have c2 : W3.cell? ⟨W2.heap.size, 2, none⟩ = some (.int .i64 g.rate) := (B3.cell (p := ⟨W2.heap.size, 2, none⟩) (by simp)).trans (by simp [go_sem])
    have c3 : W3.cell? ⟨W2.heap.size, 3, none⟩ = some (.slice p2.da g.ds.length p2.dc) := (B3.cell (p := ⟨W2.heap.size, 3, none⟩) (by simp)).trans (by simp [go_sem])
    have c4 : W3.cell? ⟨W2.heap.size, 4, none⟩ = some (.slice p2.ra rs.length p2.rc) := (B3.cell (p := ⟨W2.heap.size, 4, none⟩) (by simp)).trans (by simp [go_sem])
    have HO3 := hid (HO2.out.later G23 (Nat.le_refl _))
    have HIn3 := hid (HIn.out.later G23 (Nat.le_refl _))
    clear e13 X0 A0 A1 X4 B1 B2 B3 HO2 HIn G23
    by_cases hc : ck.2.2 = 0
    · have hc1 : (ck.2.2 != 0) = false := by simp [hc]
      have hGG : (gaugeP { g with rs := rs }).2.2 = 0 := by rw [HCk.out]; exact hc
      have hgd := gauGood hGG
      have hdl1 : 1 ≤ g.ds.length := hgd.dlen.1
      have hdl2 : g.ds.length ≤ 8 := hgd.dlen.2
      have hL1 : L.length ≤ 150 := by rw [HLl.out]; have := HY.out.1; omega
      have hl0 : decide ((400 : Int) < (L.length : Int)) = false := by simp; omega
      have hd0 : ((g.ds.length : Int) == 0) = false := by rw [beq_eq_false_iff_ne]; omega
      have key := fun (d : Nat) (hd : d < g.ds.length) => fit_truth (g := { g with rs := rs }) (x := x.from_) (b0 := t0) (b1 := t1) (sh := x.sh) (L := L) hGG HX.out.sbd b00 b10 HCh.out (fun r hr => (HCm.out r hr).with) ⟨y0, y1⟩ hL1 d hd rfl rfl
      have HKey := hid key
      have HGd := hid hgd
      have HLb := hid HCh.out.bd
      have hlI : (L.length : Int) ≤ 150 := by omega
      obtain ⟨j0, hj, hz0, hz1, hz2⟩ := info_parts A.infoSpan
      clear key hgd hc hGG
      rcases HIn3.out with h0 | ⟨ib, io, ha, his, hic⟩
      · have := HLl.out; rw [h0] at this; simp at this
      subst ha
      have HIc := hid hic
      clear hic
      go_wp2_with fail
      go_loopw [13, 14, 15] (fun s13 s14 i wr => ∃ (sv wv : Value) (k : Nat), sv = s13 ∧ wv = s14 ∧ k ≤ L.length ∧ i = .int .i64 k ∧ Hid (wr.ownsRow W3.heap.size 32 2 sv k (spanVals (sureL (L.take k)))) ∧ Hid (wr.ownsRow W3.heap.size 32 2 wv k (spanVals (wideL t0 t1 (L.take k)))) ∧ Hid (sv.ownBlock = none ∨ sv.ownBlock ≠ wv.ownBlock) ∧ Below W3.heap.size W3 wr) (fun _ _ i _ => L.length - (intOf i).toNat)
      case atStart => exact ⟨_, _, 0, rfl, rfl, Nat.zero_le _, rfl, hid (World.ownsRow_nil _ _ _ _), hid (World.ownsRow_nil _ _ _ _), hid (.inl rfl), Below.refl _ _⟩
      case round =>
        obtain ⟨sv, wv, k, rfl, rfl, hk, rfl, hos, how, hD, hbw⟩ := hrel
        have lr : W3.heap.size ≤ wr.heap.size := hbw.size
        by_cases hlt : k < L.length
        · have ic := (hbw.cell (p := ⟨ib, io + k, none⟩) his).trans (HIc.out k hlt)
          have a0 := (hbw.cell (p := ⟨w.heap.size + 2, 0, none⟩) (by show w.heap.size + 2 < _; omega)).trans a0
          have a1 := (hbw.cell (p := ⟨w.heap.size + 2, 1, none⟩) (by show w.heap.size + 2 < _; omega)).trans a1
          obtain ⟨lb1, lb2⟩ := HLb.out k hlt
          have HTk := hid (show sureL (L.take (k + 1)) = sureL (L.take k) ++ [(L[k], L[k])] by rw [List.take_succ_eq_append_getElem hlt]; unfold sureL; rw [List.map_append]; rfl)
          have HTw := hid (show wideL t0 t1 (L.take (k + 1)) = wideL t0 t1 (L.take k) ++ [(max (-20000) (L[k] - t0), min 20000 (L[k] + t1))] by rw [List.take_succ_eq_append_getElem hlt]; unfold wideL; rw [List.map_append]; rfl)
          generalize L[k] = lk at *
          have hkI : (k : Int) < (L.length : Int) := by omega
          have ag : sv.ownBlock ≠ some ib := fun e => by have := (hos.out.lt _ e).1; omega
          have ag' : wv.ownBlock ≠ some ib := fun e => by have := (how.out.lt _ e).1; omega
          have ab : sv.ownBlock ≠ some (w.heap.size + 2) := fun e => by have := (hos.out.lt _ e).1; omega
          have ab' : wv.ownBlock ≠ some (w.heap.size + 2) := fun e => by have := (how.out.lt _ e).1; omega
          have hk0 : (0 : Int) ≤ (k : Int) := Int.natCast_nonneg _
          have hir : ib < wr.heap.size := by omega
          have hwr : w.heap.size + 2 < wr.heap.size := by omega
          go_wp2_with fail
          go_region_held3 (fun w' => w'.cell? ⟨ib, io + k, none⟩ = some (.int .i64 lk))
            (first | go_keep | (rw [hgrow.cell_far _ (by simp; omega) (Ne.symm ag)]; assumption))
            ((refine step_append_lies _ (by rfl) _ _ _ (by rfl) W3.heap.size 32 j0 _ 2 16 Try.underlying35 hj hz0 hz1 hz2 rfl (by omega) sv k _ (by rfl) ((hos.out.alloc _).drew)
                  ⟨wr.heap.size, 0, none⟩ 1 1 [.int .i64 lk, .int .i64 lk] (by rfl) (by rfl) (World.news_of_block (cs := #[.int .i64 lk, .int .i64 lk]) (t := 32) (fr := (0, 0)) (heap_alloc_new wr _)) (by simp [Value.oneCell'])
                  (by omega) (by unfold maxLen; omega) (by omega) (by simp; omega) (wr.heap.size + 1) (by simp) ?_; intro gg cp w1 hown1 hgrow hat hlt1))
          obtain ⟨how1, hne⟩ := two_first ((how.out.alloc (.cells #[.int .i64 lk, .int .i64 lk] 32)).drew) hD.out hgrow (by simpa using hat)
          have bw1 : Below W3.heap.size wr w1 := (((Below.refl _ _).alloc lr _).drew).trans (below_own ((hos.out.alloc _).drew) (Nat.le_refl _) (by simp; omega) hgrow)
          have ic := (bw1.cell (p := ⟨ib, io + k, none⟩) his).trans ic
          have a0 := (bw1.cell (p := ⟨w.heap.size + 2, 0, none⟩) (by show w.heap.size + 2 < _; omega)).trans a0
          have a1 := (bw1.cell (p := ⟨w.heap.size + 2, 1, none⟩) (by show w.heap.size + 2 < _; omega)).trans a1
          have hos1 := hid hown1
          have how1 := hid how1
          have hl1 : W3.heap.size ≤ w1.heap.size := by have := bw1.size; omega
          have hir : ib < w1.heap.size := by omega
          have hwr : w.heap.size + 2 < w1.heap.size := by omega
          clear hgrow hat hown1 hlt1 ag ab
          go_wp2_with fail
          have we1 : IntKind.i64.wrap t0 = t0 := IntWalk.i64_in _ (by omega)
          have we2 : IntKind.i64.wrap t1 = t1 := IntWalk.i64_in _ (by omega)
          have we3 : IntKind.i64.wrap (lk - t0) = lk - t0 := IntWalk.i64_in _ (by omega)
          have we4 : IntKind.i64.wrap (lk + t1) = lk + t1 := IntWalk.i64_in _ (by omega)
          go_region_held3 (fun w' => w'.cell? ⟨ib, io + k, none⟩ = some (.int .i64 lk) ∧ w'.cell? ⟨w.heap.size + 2, 0, none⟩ = some (.int .u8 t0) ∧ w'.cell? ⟨w.heap.size + 2, 1, none⟩ = some (.int .u8 t1))
            (first | go_keep | (go_split_ands
                                refine ⟨?_, ?_, ?_⟩
                                · (rw [hgrow.cell_far _ (by simp; omega) (Ne.symm ag')]; assumption)
                                · (rw [hgrow.cell_far _ (by simp; omega) (Ne.symm ab')]; assumption)
                                · (rw [hgrow.cell_far _ (by simp; omega) (Ne.symm ab')]; assumption)))
            ((refine step_append_lies _ (by rfl) _ _ _ (by rfl) W3.heap.size 32 j0 _ 2 16 Try.underlying35 hj hz0 hz1 hz2 rfl (by omega) wv k _ (by rfl) ((how1.out.alloc _).drew)
                  ⟨w1.heap.size, 0, none⟩ 1 1 [.int .i64 (max (-20000) (lk - t0)), .int .i64 (min 20000 (lk + t1))] (by rfl) (by rfl) (World.news_of_block (cs := #[.int .i64 (max (-20000) (lk - t0)), .int .i64 (min 20000 (lk + t1))]) (t := 32) (fr := (0, 0)) (heap_alloc_new w1 _)) (by simp [Value.oneCell'])
                  (by omega) (by unfold maxLen; omega) (by omega) (by simp; omega) (w1.heap.size + 1) (by simp) ?_; intro gh cq w2 hown2 hgrow hat hlt2))
          all_goals
            obtain ⟨hos2, hne2⟩ := two_second ((hos1.out.alloc (.cells #[.int .i64 (max (-20000) (lk - t0)), .int .i64 (min 20000 (lk + t1))] 32)).drew) hne hgrow (by simpa using hat)
            have bw2 : Below W3.heap.size w1 w2 := (((Below.refl _ _).alloc hl1 _).drew).trans (below_own ((how1.out.alloc _).drew) (Nat.le_refl _) (by simp; omega) hgrow)
            clear we1 we2 we3 we4
            have HS2 := hid hos2; have HW2 := hid hown2; have HN2 := hid hne2
            have BX := hbw.trans (bw1.trans bw2)
            clear hgrow hat hown2 hos2 hne2 hlt2 ic a0 a1 bw1 bw2 ag' ab'
            go_wp2_with fail
            refine ⟨⟨_, _, k + 1, rfl, rfl, by omega, by go_num, hid (by rw [HTk.out, spanVals_snoc]; exact HS2.out), hid (by rw [HTw.out, spanVals_snoc]; exact HW2.out), hid (.inr HN2.out), BX⟩, by simp [intOf]; omega⟩
        · obtain rfl : k = L.length := by omega
          have hos2 := hos.out
          have how2 := how.out
          rw [List.take_length] at hos2 how2
          have es : (sureL L).length = L.length := sureL_len L
          have ew : (wideL t0 t1 L).length = L.length := wideL_len t0 t1 L
          rw [← es] at hos2
          rw [← ew] at how2
          obtain ⟨sA, sC, hsv, hSpS⟩ := spansAt_of_own hos2
          obtain ⟨wA, wC, hwv, hSpW⟩ := spansAt_of_own how2
          rw [es] at hsv
          rw [ew] at hwv
          subst hsv hwv
          have HSs := hid hSpS; have HSw := hid hSpW; have HEs := hid es; have HEw := hid ew
          have HO4 := hid (HO3.out.later hbw (Nat.le_refl _))
          have BW4 : Below w.heap.size w wr := BW3.trans (hbw.mono (by omega))
          have x0 := (hbw.cell (p := ⟨w.heap.size + 1, 0, none⟩) (by show w.heap.size + 1 < _; omega)).trans x0
          have x4 := (hbw.cell (p := ⟨w.heap.size + 1, 4, none⟩) (by show w.heap.size + 1 < _; omega)).trans x4
          have c0 := (hbw.cell (p := ⟨W2.heap.size, 0, none⟩) l3).trans c0
          have c1 := (hbw.cell (p := ⟨W2.heap.size, 1, none⟩) l3).trans c1
          have c2 := (hbw.cell (p := ⟨W2.heap.size, 2, none⟩) l3).trans c2
          have c3 := (hbw.cell (p := ⟨W2.heap.size, 3, none⟩) l3).trans c3
          have c4 := (hbw.cell (p := ⟨W2.heap.size, 4, none⟩) l3).trans c4
          obtain ⟨Wr, hWr⟩ : ∃ V, V = wr := ⟨_, rfl⟩
          subst hWr
          clear hos2 how2 hSpS hSpW hos how hD es ew hbw HO3 BW3 a0 a1
          go_wp2_with fail
          have lW : W2.heap.size < Wr.heap.size := by omega
          have lw1 : w.heap.size + 1 < Wr.heap.size := by omega
          go_loopw [16] (fun i wr => ∃ d : Nat, d ≤ g.ds.length ∧ i = .int .i64 d ∧ Below Wr.heap.size Wr wr) (fun i _ => g.ds.length - (intOf i).toNat)
          case atStart => exact ⟨0, Nat.zero_le _, rfl, Below.refl _ _⟩
          case round =>
            obtain ⟨d, hd, rfl, hbx⟩ := hrel
            have lx := hbx.size
            have x0 := (hbx.cell (p := ⟨w.heap.size + 1, 0, none⟩) lw1).trans x0
            have x4 := (hbx.cell (p := ⟨w.heap.size + 1, 4, none⟩) lw1).trans x4
            have c0 := (hbx.cell (p := ⟨W2.heap.size, 0, none⟩) lW).trans c0
            have c1 := (hbx.cell (p := ⟨W2.heap.size, 1, none⟩) lW).trans c1
            have c2 := (hbx.cell (p := ⟨W2.heap.size, 2, none⟩) lW).trans c2
            have c3 := (hbx.cell (p := ⟨W2.heap.size, 3, none⟩) lW).trans c3
            have c4 := (hbx.cell (p := ⟨W2.heap.size, 4, none⟩) lW).trans c4
            have BWx : Below w.heap.size w wr := BW4.trans (hbx.mono (by omega))
            by_cases hlt : d < g.ds.length
            · obtain ⟨sa, hsa⟩ : ∃ s, fitP { g with rs := rs } d x.from_ (sureL L) = s := ⟨_, rfl⟩
              obtain ⟨sb, hsb⟩ : ∃ s, fitP { g with rs := rs } d x.from_ (wideL t0 t1 L) = s := ⟨_, rfl⟩
              have key := HKey.out d hlt
              simp only [hsa, hsb] at key
              have HSa := hid hsa; have HSb := hid hsb; have HK := hid key
              clear key hsa hsb
              have hdI : (d : Int) < (g.ds.length : Int) := by omega
              have hd8 : (d : Int) ≤ 8 := by omega
              have hl8 : (g.ds.length : Int) ≤ 8 := by omega
              rcases (HO4.out.later hbx (Nat.le_refl _)).ds with h0 | ⟨db, dd, hda, hds, hdc⟩
              · simp only at h0; rw [h0] at hlt; simp at hlt
              obtain ⟨_, e1, e2⟩ := hdc d hlt
              simp only at hda e1 e2
              have HOk := hid (HO4.out.later hbx (Nat.le_refl _))
              have HC3 := hid c3
              have c3' := c3
              rw [hda] at c3'
              have HDa := hid hda
              have HDt := hid (HGd.out.dat d hlt)
              simp only at HDt
              clear hdc hda c3
              generalize g.ds[d] = dt at *
              have ls : wr.heap.size ≠ W2.heap.size := by omega
              have ls' : W2.heap.size < wr.heap.size := by omega
              have ls1 : w.heap.size + 1 < wr.heap.size := by omega
              have ls2 : w.heap.size + 1 ≠ wr.heap.size := by omega
              have ldb : db ≠ wr.heap.size := by omega
              go_upto_if 113 with fail
              generalize hV : World.alloc wr _ = V
              have bV : Below wr.heap.size wr V := by rw [← hV]; exact (Below.refl _ _).alloc (Nat.le_refl _) _
              have lV : wr.heap.size < V.heap.size := by rw [← hV]; simp
              have s0 : V.cell? ⟨wr.heap.size, 0, none⟩ = some (.int .i64 dt.lo) := by rw [← hV]; simp [go_sem]
              have s1 : V.cell? ⟨wr.heap.size, 1, none⟩ = some (.int .i64 dt.hi) := by rw [← hV]; simp [go_sem]
              have x0 := (bV.cell (p := ⟨w.heap.size + 1, 0, none⟩) ls1).trans x0
              have x4 := (bV.cell (p := ⟨w.heap.size + 1, 4, none⟩) ls1).trans x4
              have c0 := (bV.cell (p := ⟨W2.heap.size, 0, none⟩) ls').trans c0
              have c1 := (bV.cell (p := ⟨W2.heap.size, 1, none⟩) ls').trans c1
              have c2 := (bV.cell (p := ⟨W2.heap.size, 2, none⟩) ls').trans c2
              have c3 := (bV.cell (p := ⟨W2.heap.size, 3, none⟩) ls').trans HC3.out
              have c4 := (bV.cell (p := ⟨W2.heap.size, 4, none⟩) ls').trans c4
              clear hV e1 e2 c3' ls ls2 ldb
              go_cut [18] (fun s18 wx => ∃ nv : Int, s18 = .int .i64 nv ∧ nv = shiftOf dt x.sh d ∧ Below V.heap.size V wx)
              case first =>
                by_cases hds2 : d < x.sh.length
                · have hds' : (d : Int) < (x.sh.length : Int) := by omega
                  have hslen : (x.sh.length : Int) ≤ 140737488355328 := by have := HX.out.slen; omega
                  rcases (HX.out.later (BWx.trans (bV.mono (by omega))) (Nat.le_refl _)).sat with h0 | ⟨sb', so, hsa', hss, hsc⟩
                  · rw [h0] at hds2; simp at hds2
                  have sc0 := hsc d hds2
                  obtain ⟨sv1, sv2⟩ := HX.out.sbd x.sh[d] (List.getElem_mem _)
                  rw [hsa'] at x4
                  have HSh := hid (show shiftOf dt x.sh d = dt.lo + ((dt.hi - dt.lo) * x.sh[d]).tdiv 255 by unfold shiftOf; rw [if_pos hds2]; simp [List.getD, hds2])
                  clear hsc hsa'
                  generalize x.sh[d] = sv at *
                  go_wp2_with fail
                  go_quiet (fail)
                  go_wp2_with fail
                  go_meet
                  refine ⟨_, rfl, ?_, below_drewN (Below.refl _ _) _⟩
                  have h1 := HDt.out.2
                  rw [HSh.out]
                  have := valA (lp := 0) (lo := dt.lo) (hi := dt.hi) (sv := sv) (by omega) (by omega) h1.1 h1.2.1 h1.2.2 sv1 sv2
                  rw [Int.zero_add, Int.zero_add, wrap_id (n := dt.lo) (by omega) (by omega)] at this
                  exact this
                · have hds' : (x.sh.length : Int) ≤ (d : Int) := by omega
                  go_wp2_with fail
                  go_meet
                  exact ⟨_, rfl, by unfold shiftOf; rw [if_neg hds2], Below.refl _ _⟩
              case rest =>
                obtain ⟨nv, rfl, hnv, hbz⟩ := hcut
                obtain ⟨W5, hW5⟩ : ∃ V, V = wc := ⟨_, rfl⟩
                subst hW5
                have l5 : V.heap.size ≤ W5.heap.size := hbz.size
                have c0 := (hbz.cell (p := ⟨W2.heap.size, 0, none⟩) (by show W2.heap.size < _; omega)).trans c0
                have c1 := (hbz.cell (p := ⟨W2.heap.size, 1, none⟩) (by show W2.heap.size < _; omega)).trans c1
                have c2 := (hbz.cell (p := ⟨W2.heap.size, 2, none⟩) (by show W2.heap.size < _; omega)).trans c2
                have c3 := (hbz.cell (p := ⟨W2.heap.size, 3, none⟩) (by show W2.heap.size < _; omega)).trans c3
                have c4 := (hbz.cell (p := ⟨W2.heap.size, 4, none⟩) (by show W2.heap.size < _; omega)).trans c4
                have x0 := (hbz.cell (p := ⟨w.heap.size + 1, 0, none⟩) (by show w.heap.size + 1 < _; omega)).trans x0
                have s0 := (hbz.cell (p := ⟨wr.heap.size, 0, none⟩) (by show wr.heap.size < _; omega)).trans s0
                have s1 := (hbz.cell (p := ⟨wr.heap.size, 1, none⟩) (by show wr.heap.size < _; omega)).trans s1
                have B5 : Below wr.heap.size wr W5 := bV.trans (hbz.mono (by omega))
                have HO5 := hid (HOk.out.later B5 (Nat.le_refl _))
                have HSs5 := hid (HSs.out.later (hbx.trans (B5.mono lx)) (Nat.le_refl _))
                have HSw5 := hid (HSw.out.later (hbx.trans (B5.mono lx)) (Nat.le_refl _))
                have BW5 : Below w.heap.size w W5 := BWx.trans (B5.mono (by have := BWx.size; omega))
                have HNv := hid hnv
                clear hbz bV hnv x4 HOk
                go_wp2_with fail
                refine (fitY g rs p2 d x.from_ sA sC L.length (sureL L) sa _ HO5.out HEs.out (by rw [HEs.out]; omega) HSs5.out HSa.out).mono ?_
                rintro e W6 ⟨rfl, B6⟩
                have l6 : W5.heap.size ≤ W6.heap.size := B6.size
                have c0 := (B6.cell (p := ⟨W2.heap.size, 0, none⟩) (by show W2.heap.size < _; omega)).trans c0
                have c1 := (B6.cell (p := ⟨W2.heap.size, 1, none⟩) (by show W2.heap.size < _; omega)).trans c1
                have c2 := (B6.cell (p := ⟨W2.heap.size, 2, none⟩) (by show W2.heap.size < _; omega)).trans c2
                have c3 := (B6.cell (p := ⟨W2.heap.size, 3, none⟩) (by show W2.heap.size < _; omega)).trans c3
                have c4 := (B6.cell (p := ⟨W2.heap.size, 4, none⟩) (by show W2.heap.size < _; omega)).trans c4
                have x0 := (B6.cell (p := ⟨w.heap.size + 1, 0, none⟩) (by show w.heap.size + 1 < _; omega)).trans x0
                have s0 := (B6.cell (p := ⟨wr.heap.size, 0, none⟩) (by show wr.heap.size < _; omega)).trans s0
                have s1 := (B6.cell (p := ⟨wr.heap.size, 1, none⟩) (by show wr.heap.size < _; omega)).trans s1
                have ln6 : W2.heap.size ≠ W6.heap.size := by omega
                have lm6 : w.heap.size + 1 ≠ W6.heap.size := by omega
                have lo6 : W2.heap.size < W6.heap.size := by omega
                have lp6 : w.heap.size + 1 < W6.heap.size := by omega
                have HO6 := hid (HO5.out.later B6 (Nat.le_refl _))
                have HSw6 := hid (HSw5.out.later B6 (Nat.le_refl _))
                have BW6 : Below w.heap.size w W6 := BW5.trans (B6.mono BW5.size)
                have HB6 := hid (show Below Wr.heap.size Wr W6 from hbx.trans ((B5.trans (B6.mono B5.size)).mono lx))
                have hs0 := hid s0
                have hs1 := hid s1
                clear B6 B5 HSs5 HSw5 s0 s1
                go_wp2_with fail
                refine (fitY g rs p2 d x.from_ wA wC L.length (wideL t0 t1 L) sb _ (HO6.out.later ((Below.refl _ _).alloc (Nat.le_refl _) _) (Nat.le_refl _)) HEw.out (by rw [HEw.out]; omega) (HSw6.out.later ((Below.refl _ _).alloc (Nat.le_refl _) _) (Nat.le_refl _)) HSb.out).mono ?_
                rintro e W7 ⟨rfl, B7⟩
                have l7 : W6.heap.size < W7.heap.size := by have := B7.size; simp at this; omega
                have a0 : W7.cell? ⟨W6.heap.size, 0, none⟩ = some (.int .i64 sa.1.1) := (B7.cell (p := ⟨W6.heap.size, 0, none⟩) (by simp)).trans (by simp [go_sem])
                have a1 : W7.cell? ⟨W6.heap.size, 1, none⟩ = some (.int .i64 sa.1.2) := (B7.cell (p := ⟨W6.heap.size, 1, none⟩) (by simp)).trans (by simp [go_sem])
                have G67 : Below W6.heap.size W6 W7 := ((Below.refl _ _).alloc (Nat.le_refl _) _).trans (B7.mono (by simp))
                have s0 := (G67.cell (p := ⟨wr.heap.size, 0, none⟩) (by show wr.heap.size < _; omega)).trans hs0.out
                have s1 := (G67.cell (p := ⟨wr.heap.size, 1, none⟩) (by show wr.heap.size < _; omega)).trans hs1.out
                have BW7 : Below w.heap.size w W7 := BW6.trans (G67.mono BW6.size)
                have BR7 : Below Wr.heap.size Wr W7 := HB6.out.trans (G67.mono HB6.out.size)
                obtain ⟨k1, k2, ⟨k3, k4⟩, ⟨k5, k6⟩, k7, k8⟩ := HK.out
                rw [← HNv.out] at k3 k4
                simp only at k7 k8
                have q1 : (sa.2 != 0) = false := by simp [k1]
                have q2 : (sb.2 != 0) = false := by simp [k2]
                have ln7 : W6.heap.size ≠ W7.heap.size := by omega
                have lo7 : W6.heap.size < W7.heap.size := l7
                have lz7 : wr.heap.size ≠ W7.heap.size := by omega
                have lz7' : wr.heap.size < W7.heap.size := by omega
                clear B7 G67 HB6 HO6 HSw6 c0 c1 c2 c3 c4 x0 k1 k2 ln6 lm6 lo6 lp6 HK HNv
                go_wp2_with fail
                refine (has_yes _ _ _ _ k3 k4).mono ?_
                rintro e W8 ⟨rfl, B8⟩
                have l8 : W7.heap.size < W8.heap.size := by have := B8.size; simp at this; omega
                have b0 : W8.cell? ⟨W7.heap.size, 0, none⟩ = some (.int .i64 sb.1.1) := (B8.cell (p := ⟨W7.heap.size, 0, none⟩) (by simp)).trans (by simp [go_sem])
                have b1 : W8.cell? ⟨W7.heap.size, 1, none⟩ = some (.int .i64 sb.1.2) := (B8.cell (p := ⟨W7.heap.size, 1, none⟩) (by simp)).trans (by simp [go_sem])
                have G78 : Below W7.heap.size W7 W8 := ((Below.refl _ _).alloc (Nat.le_refl _) _).trans (B8.mono (by simp))
                have a0 := (G78.cell (p := ⟨W6.heap.size, 0, none⟩) (by show W6.heap.size < _; omega)).trans a0
                have a1 := (G78.cell (p := ⟨W6.heap.size, 1, none⟩) (by show W6.heap.size < _; omega)).trans a1
                have s0 := (G78.cell (p := ⟨wr.heap.size, 0, none⟩) (by show wr.heap.size < _; omega)).trans s0
                have s1 := (G78.cell (p := ⟨wr.heap.size, 1, none⟩) (by show wr.heap.size < _; omega)).trans s1
                have BR8 : Below Wr.heap.size Wr W8 := BR7.trans (G78.mono BR7.size)
                clear B8 G78 BR7 ln7 lo7 lz7 lz7'
                go_wp2_with fail
                refine (within_yes _ _ _ _ _ k5 k6).mono ?_
                rintro e W9 ⟨rfl, B9⟩
                have b0 := (B9.cell (p := ⟨W7.heap.size, 0, none⟩) (by show W7.heap.size < _; omega)).trans b0
                have b1 := (B9.cell (p := ⟨W7.heap.size, 1, none⟩) (by show W7.heap.size < _; omega)).trans b1
                have s0 := (B9.cell (p := ⟨wr.heap.size, 0, none⟩) (by show wr.heap.size < _; omega)).trans s0
                have s1 := (B9.cell (p := ⟨wr.heap.size, 1, none⟩) (by show wr.heap.size < _; omega)).trans s1
                have BR9 : Below Wr.heap.size Wr W9 := BR8.trans (B9.mono BR8.size)
                clear B9 a0 a1 BR8
                go_wp2_with fail
                refine (within_yes _ _ _ _ _ k7 k8).mono ?_
                rintro e W10 ⟨rfl, B10⟩
                have BR10 : Below Wr.heap.size Wr W10 := BR9.trans (B10.mono BR9.size)
                clear B10 b0 b1 s0 s1 BR9
                go_wp2_with fail
                refine ⟨⟨d + 1, by omega, by go_num, BR10⟩, by simp [intOf]; omega⟩
            · obtain rfl : d = g.ds.length := by omega
              go_wp2_with fail
              refine (awake_any _).mono ?_
              rintro e W9 ⟨rfl, B9⟩
              go_wp2_with fail
              go_ret
              exact ⟨rfl, BWx.trans (B9.mono (by have := BWx.size; omega))⟩
    · have hc1 : (ck.2.2 != 0) = true := by simp [hc]
      clear hc
      go_wp2_with fail
      refine (awake_any _).mono ?_
      rintro e W5 ⟨rfl, B5⟩
      go_wp2_with fail
      go_ret
      exact ⟨rfl, BW3.trans (B5.mono BW3.size)⟩
  · have hno : x.from_ < 0 ∨ (0 ≤ x.from_ ∧ 199800 < x.from_) ∨ ((0 ≤ x.from_ ∧ x.from_ ≤ 199800) ∧ 150 ≤ x.mv.length) ∨ ((0 ≤ x.from_ ∧ x.from_ ≤ 199800) ∧ x.mv.length < 150 ∧ x.level < -20000) ∨ ((0 ≤ x.from_ ∧ x.from_ ≤ 199800) ∧ x.mv.length < 150 ∧ -20000 ≤ x.level ∧ 20000 < x.level) := by omega
    have HNo := hid hno
    clear hno hy
    obtain ⟨ck, hck⟩ : ∃ ck, gaugeP g = ck := ⟨_, rfl⟩
    have HCk := hid hck; clear hck
    go_enter Try.func17, Try.ntmps17
    go_wp2_with fail
    generalize hW1 : World.alloc (World.alloc (World.alloc w _) _) _ = W1
    have B1 : Below w.heap.size w W1 := by rw [← hW1]; repeat (first | exact Below.refl _ _ | refine Below.alloc ?_ (by simp <;> omega) _)
    clear hW1
    refine (made_no g p x q _ (HX.out.later B1 (Nat.le_refl _)) HNo.out).mono ?_
    rintro e W2 ⟨rfl, B2⟩
    have B12 := B1.trans (B2.mono B1.size)
    clear B1 B2
    go_wp2_with fail
    refine (show Calls Try.prog 28 _ _ _ from (by rw [← HCk.out]; exact checkGauge_any g p _ (HH.out.later (B12.alloc (by have := B12.size; omega) _) (Nat.le_refl _)) : Calls Try.prog 28 #[.agg #[.string g.name, .int .i64 g.err, .int .i64 g.rate, .slice p.da g.ds.length p.dc, .slice p.ra g.rs.length p.rc]] _ fun e w' => e = .returned (.tuple #[.int .i64 ck.1, .int .i64 ck.2.1, .int .i64 ck.2.2]) ∧ Below _ _ w')).mono ?_
    rintro e W3 ⟨rfl, B3⟩
    have BW3 : Below w.heap.size w W3 := (B12.alloc (by have := B12.size; omega) _).trans (B3.mono (by have := B12.size; simp; omega))
    clear B3
    go_wp2_with fail
    refine (awake_any _).mono ?_
    rintro e W5 ⟨rfl, B5⟩
    go_wp2_with fail
    go_ret
    exact ⟨rfl, BW3.trans (B5.mono BW3.size)⟩
end Go.Proofs.Ytfjankkkeehioaa
