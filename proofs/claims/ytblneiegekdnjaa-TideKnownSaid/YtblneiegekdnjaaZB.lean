/- Tide, part ZB: the level of the tide at a tick, by the reference. -/
import Derived.Test.YtblneiegekdnjaaZA
set_option linter.all false
namespace Go.Proofs.Ytblneiegekdnjaa
open Go.RowKit

theorem hk_bd {c : Con} (hg : ConGood c) (t : Int) : ∃ k : Nat, placeOf c t / c.den = k ∧ k < c.hs.length ∧ 0 ≤ placeOf c t % c.den ∧ placeOf c t % c.den < c.den := by
  have hp := placeOf_bd hg t
  have h3 := hg.den1
  have hk := Int.ediv_lt_of_lt_mul (show 0 < c.den by omega) (show placeOf c t < (c.hs.length : Int) * c.den by rw [Int.mul_comm]; exact hp.2)
  have hq0 : 0 ≤ placeOf c t / c.den := Int.ediv_nonneg hp.1 (by omega)
  exact ⟨(placeOf c t / c.den).toNat, by omega, by omega, Int.emod_nonneg _ (by omega), Int.emod_lt_of_pos _ (by omega)⟩

set_option maxRecDepth 100000 in
set_option maxHeartbeats 4000000 in
theorem rlevel_any (mean t : Int) (a : Option Addr) (cap : Nat) (cs : List Con) (w : World) (h : ConsOk w a cap cs) (hg : ∀ c ∈ cs, ConGood c) (hm : -20000 ≤ mean ∧ mean ≤ 20000) (ht : 0 ≤ t ∧ t ≤ 200000) (hcs : cs.length ≤ 12) :
    Calls Try.prog 62 #[.agg #[.int .i64 mean, .slice a cs.length cap], .int .i64 t] w
      fun e w' => e = .returned (.agg #[.int .i64 (levelAt mean cs t).1, .int .i64 (levelAt mean cs t).2]) ∧ Below w.heap.size w w' := by
  have HM := hid hm
  obtain ⟨hm1, hm2⟩ := hm
  obtain ⟨ht1, ht2⟩ := ht
  have HH := hid h; clear h
  have HG := hid hg; clear hg
  go_enter Try.func62, Try.ntmps62
  go_wp2_with fail
  generalize hW1 : World.alloc (World.alloc (World.alloc w _) _) _ = W1
  have B1 : Below w.heap.size w W1 := by rw [← hW1]; repeat (first | exact Below.refl _ _ | refine Below.alloc ?_ (by simp <;> omega) _)
  have S1 : w.heap.size + 2 < W1.heap.size := by rw [← hW1]; simp
  have T1 := hid (show W1.cell? ⟨w.heap.size, 1, none⟩ = some (.slice a cs.length cap) by rw [← hW1]; simp [go_sem])
  have R0 := hid (show W1.cell? ⟨w.heap.size + 1, 0, none⟩ = some (.int .i64 0) by rw [← hW1]; simp [go_sem])
  have R1 := hid (show W1.cell? ⟨w.heap.size + 1, 1, none⟩ = some (.int .i64 0) by rw [← hW1]; simp [go_sem])
  have RF := hid (show ∀ o, W1.frozen? ⟨w.heap.size + 1, o, none⟩ = false by intro o; rw [← hW1]; simp [go_sem])
  have O0 := hid (show W1.cell? ⟨w.heap.size + 2, 0, none⟩ = some (.int .i64 mean) by rw [← hW1]; simp [go_sem])
  have O1 := hid (show W1.cell? ⟨w.heap.size + 2, 1, none⟩ = some (.int .i64 mean) by rw [← hW1]; simp [go_sem])
  have OF := hid (show ∀ o, W1.frozen? ⟨w.heap.size + 2, o, none⟩ = false by intro o; rw [← hW1]; simp [go_sem])
  clear hW1
  go_loopw [6] (fun i wr => ∃ k : Nat, k ≤ cs.length ∧ i = .int .i64 k ∧
      Hid (wr.cell? ⟨w.heap.size + 2, 0, none⟩ = some (.int .i64 (levelAt mean (cs.take k) t).1)) ∧ Hid (wr.cell? ⟨w.heap.size + 2, 1, none⟩ = some (.int .i64 (levelAt mean (cs.take k) t).2)) ∧
      Hid (∀ o, wr.frozen? ⟨w.heap.size + 2, o, none⟩ = false) ∧ Below (w.heap.size + 2) W1 wr ∧ w.heap.size + 2 < wr.heap.size) (fun i _ => cs.length - (intOf i).toNat)
  case atStart => exact ⟨0, Nat.zero_le _, rfl, O0, O1, OF, Below.refl _ _, S1⟩
  case round =>
    obtain ⟨k, hk, rfl, ho0, ho1, hof, hbw, hsz⟩ := hrel
    have e1 := (hbw.cell (p := ⟨w.heap.size, 1, none⟩) (by simp)).trans T1.out
    by_cases hlt : k < cs.length
    · rcases HH.out.at_ with h0 | ⟨b, o, rfl, hs, hcon⟩
      · subst h0; simp at hlt
      obtain ⟨hha, hhc, hca⟩ := hcon k hlt
      have hbl : Below w.heap.size w wr := B1.trans (hbw.mono (by omega))
      obtain ⟨c0, c1, c2, c3, c4, c5, chs⟩ := hca.later hs hbl (Nat.le_refl _)
      have HSn := hid (levelAt_snoc mean cs t k hlt)
      have HGd := hid (HG.out cs[k] (List.getElem_mem _))
      have HBd := hid (levelAt_half (cs := cs.take k) (fun c hc => HG.out c (List.mem_of_mem_take hc)) (by simp; omega) HM.out.1 HM.out.2 t)
      have HIs := hid chs
      clear chs hca hcon
      generalize cs[k] = c at *
      generalize levelAt mean (cs.take k) t = s at *
      obtain ⟨⟨s1, s2⟩, s3, s4⟩ := HBd.out
      clear HBd
      obtain ⟨kk, hkk, hkl, hr0, hr1⟩ := hk_bd HGd.out t
      have hpq := placeOf_bd HGd.out t
      have hcy := cyc_bd HGd.out
      have hPl := hid (show (c.off + c.step * t) % (c.den * (c.hs.length : Int)) = placeOf c t from rfl)
      have hgd := HGd.out
      obtain ⟨g1, g2, gh, g3, g4, g5, g6, g7, g8, g9, g10⟩ := hgd
      have hm1' : 0 ≤ c.step * t := Int.mul_nonneg (by omega) ht1
      have hm2' : c.step * t ≤ 100000 * 200000 := Int.mul_le_mul g8 ht2 (by omega) (by omega)
      have hcyd : c.den * (c.hs.length : Int) = cyc c := rfl
      have hpart := hid (show partAt c t = (heightN c kk (placeOf c t % c.den) / c.den - c.slack, upq (heightN c kk (placeOf c t % c.den)) c.den + c.slack) by unfold partAt partP; rw [hkk, Int.toNat_natCast])
      rcases HIs.out with h0 | ⟨hb, ho, rfl, hbs, hcells⟩
      · rw [h0] at g1; simp at g1
      have hm' : (kk + 1) % c.hs.length < c.hs.length := Nat.mod_lt _ (by omega)
      have x1 := hcells kk hkl
      have x2 := hcells _ hm'
      have k1 := gh kk hkl
      have k2 := gh _ hm'
      have hN := hid (show heightN c kk (placeOf c t % c.den) = c.hs[kk] * (c.den - placeOf c t % c.den) + c.hs[(kk + 1) % c.hs.length] * (placeOf c t % c.den) by simp [heightN, List.getD, hkl, hm'])
      generalize c.hs[kk] = x at *
      generalize hgy : c.hs[(kk + 1) % c.hs.length] = y at *
      clear hgy hcells gh HIs
      obtain ⟨k11, k12⟩ := k1
      obtain ⟨k21, k22⟩ := k2
      have z : ((kk : Int) + 1) % (c.hs.length : Int) = (((kk + 1) % c.hs.length : Nat) : Int) := by norm_cast
      have mb2 : -10000000 ≤ x * (c.den - placeOf c t % c.den) ∧ x * (c.den - placeOf c t % c.den) ≤ 10000000 := mul_bd k11 k12 (by omega) (by omega)
      have mb3 : -10000000 ≤ y * (placeOf c t % c.den) ∧ y * (placeOf c t % c.den) ≤ 10000000 := mul_bd k21 k22 hr0 (by omega)
      have kz : (((kk + 1) % c.hs.length : Nat) : Int) < (c.hs.length : Int) := by omega
      have kkl : (kk : Int) < (c.hs.length : Int) := by omega
      have hHf : Half (x * (c.den - placeOf c t % c.den) + y * (placeOf c t % c.den)) := ⟨by omega, by omega⟩
      have hbx : hb < wr.heap.size := hbs
      generalize hmm : (kk + 1) % c.hs.length = m at *
      generalize hpl : placeOf c t = p at *
      generalize hcc : cyc c = cy at *
      rw [hcyd] at hPl
      have hd0 : ¬ c.den = 0 := by omega
      have hl0 : ¬ (c.hs.length : Int) = 0 := by omega
      have hcy0 : ¬ cy = 0 := by omega
      have hPt : (c.off + c.step * t).tmod cy = p := by rw [Int.tmod_eq_emod_of_nonneg (by omega)]; exact hPl.out
      go_wp2_with fail
      generalize hV : World.alloc wr _ = V
      have BV : Below wr.heap.size wr V := by rw [← hV]; exact (Below.refl _ _).alloc (Nat.le_refl _) _
      have SV : wr.heap.size < V.heap.size := by rw [← hV]; simp
      have d1 : V.cell? ⟨wr.heap.size, 1, none⟩ = some (.slice (some ⟨hb, ho, none⟩) c.hs.length hhc) := by rw [← hV]; simp [go_sem]
      have d4 : V.cell? ⟨wr.heap.size, 4, none⟩ = some (.int .i64 c.den) := by rw [← hV]; simp [go_sem]
      have d5 : V.cell? ⟨wr.heap.size, 5, none⟩ = some (.int .i64 c.slack) := by rw [← hV]; simp [go_sem]
      have o0 := (BV.cell (p := ⟨w.heap.size + 2, 0, none⟩) (by simp; omega)).trans ho0.out
      have o1 := (BV.cell (p := ⟨w.heap.size + 2, 1, none⟩) (by simp; omega)).trans ho1.out
      have of : ∀ q, V.frozen? ⟨w.heap.size + 2, q, none⟩ = false := fun q => (BV.frozen (p := ⟨w.heap.size + 2, q, none⟩) (by simp; omega)).trans (hof.out q)
      have x1' := (BV.cell (p := ⟨hb, ho + kk, none⟩) hbx).trans x1
      have x2' := (BV.cell (p := ⟨hb, ho + m, none⟩) hbx).trans x2
      clear hV c0 c1 c2 c3 c4 c5 x1 x2 e1 ho0 ho1 hof
      go_quiet (fail)
      simp only [hkk]
      generalize hrr : p % c.den = r at *
      generalize hV2 : V.drewN _ = V2
      have B2 : Below V.heap.size V V2 := by rw [← hV2]; exact below_drewN (Below.refl _ _) _
      have hs2 := B2.size
      have d1' := (B2.cell (p := ⟨wr.heap.size, 1, none⟩) SV).trans d1
      have d4' := (B2.cell (p := ⟨wr.heap.size, 4, none⟩) SV).trans d4
      have x1'' := (B2.cell (p := ⟨hb, ho + kk, none⟩) (by simp; omega)).trans x1'
      have x2'' := (B2.cell (p := ⟨hb, ho + m, none⟩) (by simp; omega)).trans x2'
      clear hV2 d1 d4 x1' x2'
      go_wp2_with fail
      go_quiet (fail)
      generalize hNn : x * (c.den - r) + y * r = N at *
      have hNb : -20000000 ≤ N ∧ N ≤ 20000000 := by omega
      have hq1 := div_bd hNb g3
      have hq2 := div_bd (n := -N) (b := 20000000) (by omega) g3
      have hup : upq N c.den = -((-N) / c.den) := rfl
      have hq3 : -20000000 ≤ upq N c.den ∧ upq N c.den ≤ 20000000 := by omega
      obtain ⟨hq11, hq12⟩ := hq1
      obtain ⟨hq31, hq32⟩ := hq3
      obtain ⟨hN1, hN2⟩ := hNb
      generalize hV3 : V2.drewN _ = V3
      have B3 : Below V2.heap.size V2 V3 := by rw [← hV3]; exact below_drewN (Below.refl _ _) _
      have hs3 := B3.size
      have BV3 : Below V.heap.size V V3 := B2.trans (B3.mono hs2)
      have f4 := (B3.cell (p := ⟨wr.heap.size, 4, none⟩) (by simp; omega)).trans d4'
      have f5 := (BV3.cell (p := ⟨wr.heap.size, 5, none⟩) SV).trans d5
      have p0 := (BV3.cell (p := ⟨w.heap.size + 2, 0, none⟩) (by simp; omega)).trans o0
      have p1 := (BV3.cell (p := ⟨w.heap.size + 2, 1, none⟩) (by simp; omega)).trans o1
      have pf : ∀ q, V3.frozen? ⟨w.heap.size + 2, q, none⟩ = false := fun q => (BV3.frozen (p := ⟨w.heap.size + 2, q, none⟩) (by simp; omega)).trans (of q)
      have S3 : wr.heap.size < V3.heap.size := by omega
      clear hV3 d1' d4' x1'' x2'' d5 o0 o1 of hNn hup hq2 mb2 mb3 z hPt hmm
      go_wp2_with fail
      have y4 : ∀ X : Later V3.heap.size V3, X.wd.cell? ⟨wr.heap.size, 4, none⟩ = some (.int .i64 c.den) := fun X => (X.below.cell (p := ⟨wr.heap.size, 4, none⟩) S3).trans f4
      have y5 : ∀ X : Later V3.heap.size V3, X.wd.cell? ⟨wr.heap.size, 5, none⟩ = some (.int .i64 c.slack) := fun X => (X.below.cell (p := ⟨wr.heap.size, 5, none⟩) S3).trans f5
      have y0 : ∀ X : Later V3.heap.size V3, X.wd.cell? ⟨w.heap.size + 2, 0, none⟩ = some (.int .i64 s.1) := fun X => (X.below.cell (p := ⟨w.heap.size + 2, 0, none⟩) (by simp; omega)).trans p0
      refine wp_region_grow_tail V3.heap.size 11 (by kernel_rfl) (by kernel_rfl) ?_
      simp only [List.take_succ_cons, List.take_zero, List.drop_succ_cons, List.drop_zero]
      repeat (go_big_quiet_step ((go_at_call 98; exact later_same (rdown_any _ _ _ ⟨by omega, by omega⟩ g3 g4))))
      refine wpQuiet_nil ?_
      rintro wx ⟨⟨_, hbx4⟩, rfl⟩
      have hs4 := hbx4.size
      have f4' := (hbx4.cell (p := ⟨wr.heap.size, 4, none⟩) S3).trans f4
      have f5' := (hbx4.cell (p := ⟨wr.heap.size, 5, none⟩) S3).trans f5
      have p0' := (hbx4.cell (p := ⟨w.heap.size + 2, 0, none⟩) (by simp; omega)).trans p0
      have p1' := (hbx4.cell (p := ⟨w.heap.size + 2, 1, none⟩) (by simp; omega)).trans p1
      have pf' : ∀ q, wx.frozen? ⟨w.heap.size + 2, q, none⟩ = false := fun q => (hbx4.frozen (p := ⟨w.heap.size + 2, q, none⟩) (by simp; omega)).trans (pf q)
      have pf0 := pf' 0
      clear y4 y5 y0 f4 f5 p0 p1 pf
      go_wp2_with fail
      have n1 : wr.heap.size ≠ w.heap.size + 2 := by omega
      generalize hW5 : World.setCell wx _ _ = W5
      have B5 : Below (w.heap.size + 2) W1 W5 := by
        rw [← hW5]
        exact (hbw.trans ((BV.mono (by omega)).trans ((BV3.mono (by omega)).trans (hbx4.mono (by omega))))).setCell (p := ⟨w.heap.size + 2, 0, none⟩) (Nat.le_refl _) _
      have s5 : wx.heap.size = W5.heap.size := by rw [← hW5]; simp [World.setCell]
      have e4 : W5.cell? ⟨wr.heap.size, 4, none⟩ = some (.int .i64 c.den) := by rw [← hW5, World.cell?_setCell_other _ _ _ _ (fun e => n1 (by injection e with e; exact e.symm))]; exact f4'
      have e5 : W5.cell? ⟨wr.heap.size, 5, none⟩ = some (.int .i64 c.slack) := by rw [← hW5, World.cell?_setCell_other _ _ _ _ (fun e => n1 (by injection e with e; exact e.symm))]; exact f5'
      have q0 : W5.cell? ⟨w.heap.size + 2, 0, none⟩ = some (.int .i64 (s.1 + N / c.den - c.slack)) := by rw [← hW5]; exact World.cell?_setCell_same _ _ _ p0'
      have q1 : W5.cell? ⟨w.heap.size + 2, 1, none⟩ = some (.int .i64 s.2) := by rw [← hW5, World.cell?_setCell_other _ _ _ _ (by simp)]; exact p1'
      have qf : ∀ q, W5.frozen? ⟨w.heap.size + 2, q, none⟩ = false := fun q => by rw [← hW5]; simpa using pf' q
      have S5 : wr.heap.size < W5.heap.size := by omega
      clear hW5 f4' f5' p0' p1' pf' pf0
      have y4 : ∀ X : Later W5.heap.size W5, X.wd.cell? ⟨wr.heap.size, 4, none⟩ = some (.int .i64 c.den) := fun X => (X.below.cell (p := ⟨wr.heap.size, 4, none⟩) S5).trans e4
      have y5 : ∀ X : Later W5.heap.size W5, X.wd.cell? ⟨wr.heap.size, 5, none⟩ = some (.int .i64 c.slack) := fun X => (X.below.cell (p := ⟨wr.heap.size, 5, none⟩) S5).trans e5
      have y1 : ∀ X : Later W5.heap.size W5, X.wd.cell? ⟨w.heap.size + 2, 1, none⟩ = some (.int .i64 s.2) := fun X => (X.below.cell (p := ⟨w.heap.size + 2, 1, none⟩) (by simp; omega)).trans q1
      refine wp_region_grow_tail W5.heap.size 11 (by kernel_rfl) (by kernel_rfl) ?_
      simp only [List.take_succ_cons, List.take_zero, List.drop_succ_cons, List.drop_zero]
      repeat (go_big_quiet_step ((go_at_call 99; exact later_same (rup_any _ _ _ ⟨by omega, by omega⟩ g3 g4))))
      refine wpQuiet_nil ?_
      rintro wz ⟨⟨_, hbz⟩, rfl⟩
      have hs6 := hbz.size
      have q0' := (hbz.cell (p := ⟨w.heap.size + 2, 0, none⟩) (by simp; omega)).trans q0
      have q1' := (hbz.cell (p := ⟨w.heap.size + 2, 1, none⟩) (by simp; omega)).trans q1
      have qf' : ∀ q, wz.frozen? ⟨w.heap.size + 2, q, none⟩ = false := fun q => (hbz.frozen (p := ⟨w.heap.size + 2, q, none⟩) (by simp; omega)).trans (qf q)
      have qf1 := qf' 1
      clear y4 y5 y1 e4 e5 q0 q1 qf
      go_wp2_with fail
      have HSn' : levelAt mean (List.take (k + 1) cs) t = (s.1 + N / c.den - c.slack, s.2 + upq N c.den + c.slack) := by
        rw [HSn.out]; unfold addP; rw [hpart.out, hN.out]
        exact Prod.ext (by simp only; omega) (by simp only; omega)
      refine ⟨⟨k + 1, by omega, by go_num, hid ?_, hid ?_, hid (fun q => by simpa using qf' q), ?_, ?_⟩, by simp [intOf]; omega⟩
      · rw [HSn', World.cell?_setCell_other _ _ _ _ (by simp)]; exact q0'
      · rw [HSn']; exact World.cell?_setCell_same _ _ _ q1'
      · exact (B5.trans (hbz.mono (by omega))).setCell (p := ⟨w.heap.size + 2, 1, none⟩) (Nat.le_refl _) _
      · simp [World.setCell]; omega
    · obtain rfl : k = cs.length := by omega
      rw [List.take_length] at ho0 ho1
      have o0 := ho0.out; have o1 := ho1.out
      generalize hsv : levelAt mean cs t = s at *
      have HSv := hid hsv; clear hsv
      have hbl : Below w.heap.size w wr := B1.trans (hbw.mono (by omega))
      have r0 := (hbw.cell (p := ⟨w.heap.size + 1, 0, none⟩) (by simp)).trans R0.out
      have r1 := (hbw.cell (p := ⟨w.heap.size + 1, 1, none⟩) (by simp)).trans R1.out
      have rf0 := (hbw.frozen (p := ⟨w.heap.size + 1, 0, none⟩) (by simp)).trans (RF.out 0)
      have rf1 := (hbw.frozen (p := ⟨w.heap.size + 1, 1, none⟩) (by simp)).trans (RF.out 1)
      go_wp2_with fail
      refine bodyPost_ret (v := .agg #[.int .i64 s.1, .int .i64 s.2]) (by simp [results, Try.results62, go_sem, *]) rfl ⟨by rw [HSv.out], ?_⟩
      exact (hbl.setCell (p := ⟨w.heap.size + 1, 0, none⟩) (by simp) _).setCell (p := ⟨w.heap.size + 1, 1, none⟩) (by simp) _
end Go.Proofs.Ytblneiegekdnjaa
