/- Tide, part FB: Fit. -/
import Derived.Test.YtblneiegekdnjaaFA
import Derived.Lib.MinMax
import Derived.Deep.DeepCutAuto
set_option linter.all false
namespace Go.Proofs.Ytblneiegekdnjaa
open Go.RowKit

theorem keepQ {B : Nat} {V W w1 : World} {x y : Value} {p q : Addr} (hp : p.block < B) (hq : q.block < B) (hB : B ≤ V.heap.size) (hb : Below W.heap.size W w1) (h : Below B V W ∧ W.cell? p = some x ∧ W.cell? q = some y) :
    Below B V w1 ∧ w1.cell? p = some x ∧ w1.cell? q = some y := by
  have hs := Nat.le_trans hB h.1.size
  exact ⟨h.1.trans (hb.mono hs), by rw [hb.cell (by omega)]; exact h.2.1, by rw [hb.cell (by omega)]; exact h.2.2⟩

set_option maxRecDepth 100000 in
set_option maxHeartbeats 8000000 in
theorem fitFn_any (g : Gau) (p : GPos) (n x : Int) (la : Option Addr) (lc : Nat) (L : List (Int × Int)) (w : World) (hok : GauOk w p g) (hll : L.length ≤ 140737488355328) (hL : SpansAt w la L) :
    Calls Try.prog 37 #[.agg #[.string g.name, .int .i64 g.err, .int .i64 g.rate, .slice p.da g.ds.length p.dc, .slice p.ra g.rs.length p.rc], .int .i64 n, .int .i64 x, .slice la L.length lc] w
      fun e w' => e = .returned (.tuple #[.agg #[.int .i64 (fitP g n x L).1.1, .int .i64 (fitP g n x L).1.2], .int .i64 (fitP g n x L).2]) ∧ Below w.heap.size w w' := by
  have HH := hid hok; have HSp := hid hL; clear hok hL
  have HP := hid (fitP_eq g n x L)
  go_enter Try.func37, Try.ntmps37
  go_wp2_with fail
  generalize hW1 : World.alloc (World.alloc (World.alloc w _) _) _ = W1
  have B1 : Below w.heap.size w W1 := by rw [← hW1]; repeat (first | exact Below.refl _ _ | refine Below.alloc ?_ (by simp <;> omega) _)
  have S1 : w.heap.size + 2 < W1.heap.size := by rw [← hW1]; simp
  have hbox : GauBox W1 w.heap.size g p := by rw [← hW1]; exact ⟨by simp [go_sem], by simp [go_sem], by simp [go_sem], by simp [go_sem], by simp [go_sem]⟩
  have lv : W1.cell? ⟨w.heap.size + 1, 0, none⟩ = some (.slice la L.length lc) := by rw [← hW1]; simp [go_sem]
  have r0 : W1.cell? ⟨w.heap.size + 2, 0, none⟩ = some (.int .i64 0) := by rw [← hW1]; simp [go_sem]
  have r1 : W1.cell? ⟨w.heap.size + 2, 1, none⟩ = some (.int .i64 0) := by rw [← hW1]; simp [go_sem]
  have rf : ∀ o, W1.frozen? ⟨w.heap.size + 2, o, none⟩ = false := by intro o; rw [← hW1]; simp [go_sem]
  clear hW1
  refine (checkGauge_any g p _ (HH.out.later B1 (Nat.le_refl _))).mono ?_
  rintro e W2 ⟨rfl, B2⟩
  have hs2 := B2.size
  have hbox2 := hbox.later B2 (by omega)
  have lv2 := (B2.cell (p := ⟨w.heap.size + 1, 0, none⟩) (by simp; omega)).trans lv
  have R0 := hid ((B2.cell (p := ⟨w.heap.size + 2, 0, none⟩) (by simp; omega)).trans r0)
  have R1 := hid ((B2.cell (p := ⟨w.heap.size + 2, 1, none⟩) (by simp; omega)).trans r1)
  have RF := hid (show ∀ o, W2.frozen? ⟨w.heap.size + 2, o, none⟩ = false from fun o => (B2.frozen (p := ⟨w.heap.size + 2, o, none⟩) (by simp; omega)).trans (rf o))
  have BW : Below w.heap.size w W2 := B1.trans (B2.mono (by omega))
  have S2 : w.heap.size + 2 < W2.heap.size := by omega
  have HGd := hid (fun h => gauGood (g := g) h)
  have HBx := hid hbox2
  clear hbox lv r0 r1 rf hbox2
  generalize gaugeP g = q at *
  have hdl : (g.ds.length : Int) ≤ 140737488355328 := by have := HH.out.wf.dcap; omega
  have hrl : g.rs.length ≤ 140737488355328 := HH.out.wf.rcap
  by_cases hq : q.2.2 = 0
  · have hq' : (q.2.2 != 0) = false := by simp [hq]
    have HQ := hid hq
    have HG := hid (HGd.out hq)
    clear hq HGd
    obtain ⟨c0, c1, c2, c3, c4⟩ := HBx.out
    have hI : ChkI (w.heap.size + 3) W2 85 #[.pointer (some ⟨w.heap.size + 1, 0, none⟩)] L.length (lvE L) :=
      ⟨callFunc_fit1, fun i hi W hW => fit1_any _ la lc L i hi hll W ((hW.cell (p := ⟨w.heap.size + 1, 0, none⟩) (by simp)).trans lv2) (HSp.out.later (BW.trans (hW.mono (by omega))) (Nat.le_refl _))⟩
    have hB : w.heap.size + 3 ≤ W2.heap.size := by omega
    go_upto_region 4 with fail
    go_cut [15] (fun s15 wx => s15 = .int .i64 (fitE g n x L) ∧ Below (w.heap.size + 3) W2 wx)
    case first =>
      go_region_held3 (fun w' => Below (w.heap.size + 3) W2 w' ∧ w'.cell? ⟨w.heap.size, 3, none⟩ = some (.slice p.da g.ds.length p.dc) ∧ w'.cell? ⟨w.heap.size + 1, 0, none⟩ = some (.slice la L.length lc))
        (first | assumption | exact ⟨(Below.refl _ _).drew, by simpa using c3, by simpa using lv2⟩ | exact keepQ (by simp <;> omega) (by simp <;> omega) hB (by assumption) (by assumption) | exact keepQ (by simp <;> omega) (by simp <;> omega) hB ((Below.refl _ _).alloc (Nat.le_refl _) _) (by assumption))
        (first
          | (go_at_call 63; refine (in_any _ _ _ _).mono ?_; rintro e w' ⟨rfl, rfl⟩)
          | (go_at_call 64; refine (areTicks_any _ _ (by omega) (by omega) _).mono ?_; rintro e w' ⟨rfl, rfl⟩)
          | (go_at_call 50; refine (must_any _ _ _ _).mono ?_; rintro e w' ⟨caps, rfl, hb, hchk⟩)
          | (go_at_call 52; refine (each_any (w.heap.size + 3) W2 L.length (lvE L) _ _ _ (by omega) (by exact keepLe hB (by assumption)) (by exact keepB (by assumption)) hI).mono ?_; rintro e w' ⟨caps, rfl, hb, hchk⟩)
          | (go_at_call 49; apply Calls.mono; apply first4_chain; assumption; assumption; assumption; assumption; assumption; assumption; assumption; rintro e w' ⟨rfl, hb⟩))
      all_goals
        have hfin := keepB (by assumption : Below (w.heap.size + 3) W2 _ ∧ World.cell? _ ⟨w.heap.size, 3, none⟩ = some (.slice p.da g.ds.length p.dc) ∧ World.cell? _ ⟨w.heap.size + 1, 0, none⟩ = some (.slice la L.length lc))
        have HF := hid (fit_first g n x L)
        have hwr : IntKind.i64.wrap ((g.ds.length : Int) - 1) = (g.ds.length : Int) - 1 := IntWalk.i64_in _ (by omega)
        rw [← hwr] at HF
        clear hwr
        generalize firstAt 0 _ = r at *
        go_wp2_with fail
        go_meet
        exact ⟨by rw [← HF.out], hfin⟩
    case rest =>
      obtain ⟨rfl, hB3⟩ := hcut
      obtain ⟨W3, hW3⟩ : ∃ V, V = wc := ⟨_, rfl⟩
      subst hW3
      have hs3 := hB3.size
      have HBx3 := hid (HBx.out.later hB3 (by omega))
      have lv3 := hid ((hB3.cell (p := ⟨w.heap.size + 1, 0, none⟩) (by simp)).trans lv2)
      have R0' := hid ((hB3.cell (p := ⟨w.heap.size + 2, 0, none⟩) (by simp)).trans R0.out)
      have R1' := hid ((hB3.cell (p := ⟨w.heap.size + 2, 1, none⟩) (by simp)).trans R1.out)
      have RF' := hid (show ∀ o, W3.frozen? ⟨w.heap.size + 2, o, none⟩ = false from fun o => (hB3.frozen (p := ⟨w.heap.size + 2, o, none⟩) (by simp)).trans (RF.out o))
      have BW3 : Below w.heap.size w W3 := BW.trans (hB3.mono (by omega))
      have S3 : w.heap.size + 2 < W3.heap.size := by omega
      clear hI hB c0 c1 c2 c3 c4 lv2 R0 R1 RF HBx hB3
      by_cases he : fitE g n x L = 0
      · have he' : (fitE g n x L != 0) = false := by simp [he]
        have HOkE := hid (fitE_ok he)
        have HE0 := hid he
        obtain ⟨m, rfl⟩ : ∃ m : Nat, n = m := ⟨n.toNat, by have := (fitE_ok he).1; omega⟩
        have hmd : m < g.ds.length := by have := (fitE_ok he).1; omega
        clear he
        obtain ⟨c0, c1, c2, c3, c4⟩ := HBx3.out
        rcases HH.out.ds with h0 | ⟨db, do_, hda, hds, hdc⟩
        · rw [h0] at hmd; simp at hmd
        obtain ⟨_, d1, d2⟩ := DatAt.later BW3 _ _ _ hds (hdc m hmd)
        rw [hda] at c3
        have HDa := hid hda
        have HF0 := hid (show fitFold g (m : Int) x L 0 = (g.ds[m].lo, g.ds[m].hi) by unfold fitFold; simp [List.getD, hmd])
        generalize g.ds[m] = dd at *
        have hml : (m : Int) < (g.ds.length : Int) := by omega
        clear hda hdc c0 c1 c2
        generalize fitE g (m : Int) x L = fe at *
        have nw : w.heap.size ≠ W3.heap.size := by omega
        have lw : w.heap.size < W3.heap.size := by omega
        go_wp2_with fail
        generalize hW4 : World.alloc W3 _ = W4
        have B4 : Below W3.heap.size W3 W4 := by rw [← hW4]; exact (Below.refl _ _).alloc (Nat.le_refl _) _
        have S4 : W3.heap.size < W4.heap.size := by rw [← hW4]; simp
        have Q0 := hid (show W4.cell? ⟨W3.heap.size, 0, none⟩ = some (.int .i64 dd.lo) by rw [← hW4]; simp [go_sem])
        have Q1 := hid (show W4.cell? ⟨W3.heap.size, 1, none⟩ = some (.int .i64 dd.hi) by rw [← hW4]; simp [go_sem])
        have QF := hid (show ∀ o, W4.frozen? ⟨W3.heap.size, o, none⟩ = false by intro o; rw [← hW4]; simp [go_sem])
        clear hW4 d1 d2 c3 c4
        go_loopw [18, 19, 70] (fun _ _ i wr => ∃ k : Nat, k ≤ g.rs.length ∧ i = .int .i64 k ∧ Hid (wr.cell? ⟨W3.heap.size, 0, none⟩ = some (.int .i64 (fitFold g (m : Int) x L k).1)) ∧ Hid (wr.cell? ⟨W3.heap.size, 1, none⟩ = some (.int .i64 (fitFold g (m : Int) x L k).2)) ∧
          Hid (∀ o, wr.frozen? ⟨W3.heap.size, o, none⟩ = false) ∧ Below W3.heap.size W4 wr) (fun _ _ i _ => g.rs.length - (intOf i).toNat)
        case atStart => exact ⟨0, Nat.zero_le _, rfl, hid (by rw [HF0.out]; exact Q0.out), hid (by rw [HF0.out]; exact Q1.out), QF, Below.refl _ _⟩
        case round =>
          obtain ⟨k, hk, rfl, hq0, hq1, hqf, hbj⟩ := hrel
          have hszj : W3.heap.size < wr.heap.size := Nat.lt_of_lt_of_le S4 hbj.size
          have hb3 : Below W3.heap.size W3 wr := B4.trans hbj
          have hbl : Below w.heap.size w wr := BW3.trans (hb3.mono (by omega))
          by_cases hltj : k < g.rs.length
          · rcases HH.out.rs with h0 | ⟨b, o, hra, hs, hc⟩
            · rw [h0] at hltj; simp at hltj
            obtain ⟨q0, q1⟩ := RdgAt.later hbl _ _ _ hs (hc k hltj)
            have HSn := hid (fitFold_snoc g (m : Int) x L k hltj)
            have HRb := hid (HG.out.rdg k hltj)
            have hkl : (k : Int) < (g.rs.length : Int) := by omega
            clear hc
            generalize g.rs[k] = r at *
            obtain ⟨⟨rb1, rb2⟩, rb3, rb4⟩ := HRb.out
            have hdq := datumAt_any g p r.tick
            have HNo := hid (fun h => fitStep_no (g := g) (n := (m : Int)) (x := x) (L := L) (s := fitFold g (m : Int) x L k) (r := r) h)
            have HYes := hid (fun h h2 (mm : Nat) hm hml => fitStep_yes (g := g) (n := (m : Int)) (x := x) (L := L) (s := fitFold g (m : Int) x L k) (r := r) h h2 (m := mm) hm hml)
            have HTold := hid (toldB_iff (L := L) (x := x) (t := r.tick))
            generalize dIdx g.ds r.tick g.ds.length = di at *
            have hTd : toldB L x r.tick = (decide (0 < L.length) && inB r.tick x (x + L.length - 1)) := rfl
            generalize toldB L x r.tick = td at *
            have HTd := hid hTd; clear hTd
            have HDq := hid hdq; clear hdq
            have HRa := hid hra
            rw [hra]
            clear hra
            go_upto_region 11 with fail
            generalize hV : World.alloc wr _ = V
            have BV : Below wr.heap.size wr V := by rw [← hV]; exact (Below.refl _ _).alloc (Nat.le_refl _) _
            have SV : wr.heap.size < V.heap.size := by rw [← hV]; simp
            have x0 : V.cell? ⟨wr.heap.size, 0, none⟩ = some (.int .i64 r.tick) := by rw [← hV]; simp [go_sem]
            have x1 : V.cell? ⟨wr.heap.size, 1, none⟩ = some (.int .i64 r.value) := by rw [← hV]; simp [go_sem]
            have B3V : Below W3.heap.size W3 V := hb3.trans (BV.mono (by omega))
            have hlV := (B3V.cell (p := ⟨w.heap.size + 1, 0, none⟩) (by simp; omega)).trans lv3.out
            have hblV : Below w.heap.size w V := hbl.trans (BV.mono (by omega))
            clear hV q0 q1
            go_cut [19] (fun s19 wx => s19 = .bool td ∧ wx = V)
            case first =>
              have htk := ticksB_iff.1 HOkE.out.2.2.1
              by_cases hL0 : 0 < L.length
              · have t0 : decide (0 < L.length) = true := by simp [hL0]
                have hL1 : (0 : Int) < (L.length : Int) := by omega
                have hx2 : 0 ≤ x ∧ x ≤ 200000 := by omega
                have hl4 := HOkE.out.2.1
                obtain ⟨hx21, hx22⟩ := hx2
                have HT0 := hid t0
                clear htk
                cases hin : inB r.tick x (x + L.length - 1)
                all_goals
                  have HIn := hid hin
                  go_wp2_with (go_at_call 63; refine (in_val _ _ _ _ _ (by assumption)).mono ?_; rintro e w' ⟨rfl, rfl⟩)
                  go_meet
                  exact ⟨by rw [HTd.out, HT0.out, HIn.out]; rfl, rfl⟩
              · have t0 : decide (0 < L.length) = false := decide_eq_false (by omega)
                have t1 : decide ((0 : Int) < (L.length : Int)) = false := decide_eq_false (by omega)
                have HT0 := hid t0
                clear htk hL0
                go_wp2_with fail
                go_meet
                exact ⟨by rw [HTd.out, HT0.out]; rfl, rfl⟩
            case rest =>
              obtain ⟨rfl, hwc⟩ := hcut
              subst hwc
              obtain ⟨V, hV⟩ : ∃ V, V = wc := ⟨_, rfl⟩
              subst hV
              have BJV : Below W3.heap.size W4 V := hbj.trans (BV.mono (by omega))
              have u0 := hid ((BV.cell (p := ⟨W3.heap.size, 0, none⟩) hszj).trans hq0.out)
              have u1 := hid ((BV.cell (p := ⟨W3.heap.size, 1, none⟩) hszj).trans hq1.out)
              have uf := hid (show ∀ o, V.frozen? ⟨W3.heap.size, o, none⟩ = false from fun o => (BV.frozen (p := ⟨W3.heap.size, o, none⟩) hszj).trans (hqf.out o))
              generalize fitFold g (m : Int) x L k = fs at *
              clear hq0 hq1 hqf
              cases htd : td
              · have hn := HNo.out (by rw [htd]; rintro ⟨h, _⟩; cases h)
                have HN2 := hid hn; clear hn
                go_wp2_with fail
                go_roundw
                case rel => exact ⟨k + 1, by omega, by go_num, hid (by rw [HSn.out, HN2.out]; exact u0.out), hid (by rw [HSn.out, HN2.out]; exact u1.out), uf, BJV⟩
                case measure => simp [intOf]; omega
              · have HTt := hid (HTold.out.1 htd)
                clear htd
                obtain ⟨c0, c1, c2, c3, c4⟩ := HBx3.out.later B3V (by omega)
                go_wp2_with fail
                refine (HDq.out _ (HH.out.later hblV (Nat.le_refl _))).mono ?_
                rintro e W5 ⟨rfl, B5⟩
                have s5 := B5.size
                have BJ5 : Below W3.heap.size W4 W5 := BJV.trans (B5.mono (by omega))
                have v0 := hid ((B5.cell (p := ⟨W3.heap.size, 0, none⟩) (by simp; omega)).trans u0.out)
                have v1 := hid ((B5.cell (p := ⟨W3.heap.size, 1, none⟩) (by simp; omega)).trans u1.out)
                have vf := hid (show ∀ o, W5.frozen? ⟨W3.heap.size, o, none⟩ = false from fun o => (B5.frozen (p := ⟨W3.heap.size, o, none⟩) (by simp; omega)).trans (uf.out o))
                by_cases hdi : di = m
                · have t1 : ((di : Int) == (m : Int)) = true := by rw [beq_iff_eq]; omega
                  obtain ⟨ht1, ht2⟩ := HTt.out
                  obtain ⟨mm, hmm⟩ : ∃ mm : Nat, r.tick - x = mm := ⟨(r.tick - x).toNat, by omega⟩
                  have hmml : mm < L.length := by omega
                  have hmml' : (mm : Int) < (L.length : Int) := by omega
                  have hy := HYes.out (HTold.out.2 ⟨ht1, ht2⟩) (by omega) mm hmm hmml
                  have HY2 := hid hy
                  rcases HSp.out with h0 | ⟨lb, lo, rfl, hls, hlc⟩
                  · rw [h0] at ht1; simp at ht1
                  have y0 := (hblV.cell (p := ⟨lb, lo + mm * 2, none⟩) hls).trans (hlc mm hmml).1
                  have y1 := (hblV.cell (p := ⟨lb, lo + mm * 2 + 1, none⟩) hls).trans (hlc mm hmml).2
                  have hlbd := HOkE.out.2.2.2 mm hmml
                  have htk := ticksB_iff.1 HOkE.out.2.2.1
                  have hx2 : 0 ≤ x ∧ x ≤ 200000 := by omega
                  obtain ⟨hx21, hx22⟩ := hx2
                  generalize L[mm] = lv at *
                  obtain ⟨hl1, hl2, hl3⟩ := hlbd
                  have hVs : ∀ X : Later W5.heap.size W5, ∀ b o, b < V.heap.size → X.wd.cell? ⟨b, o, none⟩ = V.cell? ⟨b, o, none⟩ := fun X b o hb => (X.below.cell (p := ⟨b, o, none⟩) (by simp; omega)).trans (B5.cell (p := ⟨b, o, none⟩) hb)
                  have g0 : ∀ X : Later W5.heap.size W5, X.wd.cell? ⟨w.heap.size, 0, none⟩ = some (.string g.name) := fun X => (hVs X _ _ (by omega)).trans c0
                  have g1 : ∀ X : Later W5.heap.size W5, X.wd.cell? ⟨w.heap.size, 1, none⟩ = some (.int .i64 g.err) := fun X => (hVs X _ _ (by omega)).trans c1
                  have g2 : ∀ X : Later W5.heap.size W5, X.wd.cell? ⟨w.heap.size, 2, none⟩ = some (.int .i64 g.rate) := fun X => (hVs X _ _ (by omega)).trans c2
                  have g3 : ∀ X : Later W5.heap.size W5, X.wd.cell? ⟨w.heap.size, 3, none⟩ = some (.slice p.da g.ds.length p.dc) := fun X => (hVs X _ _ (by omega)).trans c3
                  have g4 : ∀ X : Later W5.heap.size W5, X.wd.cell? ⟨w.heap.size, 4, none⟩ = some (.slice p.ra g.rs.length p.rc) := fun X => (hVs X _ _ (by omega)).trans c4
                  have g5 : ∀ X : Later W5.heap.size W5, X.wd.cell? ⟨wr.heap.size, 0, none⟩ = some (.int .i64 r.tick) := fun X => (hVs X _ _ (by omega)).trans x0
                  have g6 : ∀ X : Later W5.heap.size W5, X.wd.cell? ⟨wr.heap.size, 1, none⟩ = some (.int .i64 r.value) := fun X => (hVs X _ _ (by omega)).trans x1
                  have g7 : ∀ X : Later W5.heap.size W5, X.wd.cell? ⟨w.heap.size + 1, 0, none⟩ = some (.slice (some ⟨lb, lo, none⟩) L.length lc) := fun X => (hVs X _ _ (by omega)).trans hlV
                  have g8 : ∀ X : Later W5.heap.size W5, X.wd.cell? ⟨lb, lo + mm * 2, none⟩ = some (.int .i64 lv.1) := fun X => (hVs X _ _ (by have := hblV.size; omega)).trans y0
                  have g9 : ∀ X : Later W5.heap.size W5, X.wd.cell? ⟨lb, lo + mm * 2 + 1, none⟩ = some (.int .i64 lv.2) := fun X => (hVs X _ _ (by have := hblV.size; omega)).trans y1
                  have g10 : ∀ X : Later W5.heap.size W5, X.wd.cell? ⟨W3.heap.size, 0, none⟩ = some (.int .i64 fs.1) := fun X => (hVs X _ _ (by omega)).trans u0.out
                  have g11 : ∀ X : Later W5.heap.size W5, X.wd.cell? ⟨W3.heap.size, 1, none⟩ = some (.int .i64 fs.2) := fun X => (hVs X _ _ (by omega)).trans u1.out
                  obtain ⟨he0, he1⟩ := HG.out.err
                  have hH : ∀ y, -2000000000 ≤ y ∧ y ≤ 2000000000 → Half y := fun y h => ⟨by omega, by omega⟩
                  clear hy hdi hlc c0 c1 c2 c3 c4 x0 x1 y0 y1 hlV htk hVs
                  go_wp2_with fail
                  refine wp_region_grow_tail W5.heap.size 14 (by kernel_rfl) (by kernel_rfl) ?_
                  simp only [List.take_succ_cons, List.take_zero, List.drop_succ_cons, List.drop_zero]
                  repeat (go_big_quiet_step ((first | (go_at_call 88; exact later_grow (Nat.le_refl _) (read_any g p _ _ _ (And.intro he0 he1) (And.intro rb3 rb4))) | (go_at_call 89; exact later_grow (Nat.le_refl _) (less_any _ _ _ _ _ (hH _ (by omega)) (hH _ (by omega)) (hH _ (by omega)) (hH _ (by omega)))) | (go_at_call 82; exact later_grow (Nat.le_refl _) (common_any _ _ _ _ _)))))
                  refine wpQuiet_nil ?_
                  rintro wx ⟨⟨_, hbx⟩, rfl⟩
                  have w0 := hid (show wx.cell? ⟨W3.heap.size, 0, none⟩ = some (.int .i64 fs.1) from g10 ⟨wx, hbx⟩)
                  have w1' := hid (show wx.cell? ⟨W3.heap.size, 1, none⟩ = some (.int .i64 fs.2) from g11 ⟨wx, hbx⟩)
                  have wf := hid (show ∀ o, wx.frozen? ⟨W3.heap.size, o, none⟩ = false from fun o => (hbx.frozen (p := ⟨W3.heap.size, o, none⟩) (by simp; omega)).trans (vf.out o))
                  have q0 := w0.out; have q1 := w1'.out; have f0 := wf.out 0; have f1 := wf.out 1
                  have hsx := hbx.size
                  have BJx : Below W3.heap.size W4 wx := BJ5.trans (hbx.mono (by omega))
                  clear g0 g1 g2 g3 g4 g5 g6 g7 g8 g9 g10 g11
                  go_wp2_with fail
                  have hrs := row_set (lb := W3.heap.size) (i := 0) (.int .i64 (max fs.1 (r.value - g.err - lv.2))) (.int .i64 (min fs.2 (r.value + g.err - lv.1))) w0.out w1'.out
                  simp only [Nat.zero_mul, Nat.zero_add] at hrs
                  go_roundw
                  case rel =>
                    refine ⟨k + 1, by omega, by go_num, hid ?_, hid ?_, hid ?_, (BJx.setCell (p := ⟨W3.heap.size, 0, none⟩) (Nat.le_refl _) _).setCell (p := ⟨W3.heap.size, 1, none⟩) (Nat.le_refl _) _⟩
                    · rw [HSn.out, HY2.out]; exact hrs.1
                    · rw [HSn.out, HY2.out]; exact hrs.2.1
                    · intro o; simpa using wf.out o
                  case measure => simp [intOf]; omega
                · have t1 : ((di : Int) == (m : Int)) = false := by rw [beq_eq_false_iff_ne]; omega
                  have hn := HNo.out (by rintro ⟨_, h⟩; omega)
                  have HN2 := hid hn; clear hn hdi
                  clear c0 c1 c2 c3 c4 x0 x1 hlV
                  go_wp2_with fail
                  go_roundw
                  case rel => exact ⟨k + 1, by omega, by go_num, hid (by rw [HSn.out, HN2.out]; exact v0.out), hid (by rw [HSn.out, HN2.out]; exact v1.out), vf, BJ5⟩
                  case measure => simp [intOf]; omega
          · obtain rfl : k = g.rs.length := by omega
            have r0 := (hb3.cell (p := ⟨w.heap.size + 2, 0, none⟩) S3).trans R0'.out
            have r1 := (hb3.cell (p := ⟨w.heap.size + 2, 1, none⟩) S3).trans R1'.out
            have f0 := (hb3.frozen (p := ⟨w.heap.size + 2, 0, none⟩) S3).trans (RF'.out 0)
            have f1 := (hb3.frozen (p := ⟨w.heap.size + 2, 1, none⟩) S3).trans (RF'.out 1)
            have u0 := hq0.out
            have u1 := hq1.out
            have n4 : w.heap.size + 2 ≠ W3.heap.size := by omega
            have HFin := hid (show fitP g (m : Int) x L = if (fitFold g (m : Int) x L g.rs.length).2 < (fitFold g (m : Int) x L g.rs.length).1 then ((0, 0), 9) else (fitFold g (m : Int) x L g.rs.length, 0) by rw [HP.out, if_neg (by simp [HQ.out]), if_neg (by simp [HE0.out])])
            generalize fitFold g (m : Int) x L g.rs.length = fs at *
            clear hq0 hq1 hqf
            by_cases hlt9 : fs.2 < fs.1
            · have HLt := hid hlt9
              go_wp2_with fail
              refine (show Calls Try.prog 83 #[.agg #[.int .i64 fs.1, .int .i64 fs.2]] _ (fun e w' => e = .returned (.bool true) ∧ _) from by have := empty_any fs.1 fs.2 wr; rwa [decide_eq_true hlt9] at this).mono ?_
              rintro e W6 ⟨rfl, B6⟩
              have s6 := B6.size
              have r0' := (B6.cell (p := ⟨w.heap.size + 2, 0, none⟩) (by simp; omega)).trans r0
              have r1' := (B6.cell (p := ⟨w.heap.size + 2, 1, none⟩) (by simp; omega)).trans r1
              have f0' := (B6.frozen (p := ⟨w.heap.size + 2, 0, none⟩) (by simp; omega)).trans f0
              have f1' := (B6.frozen (p := ⟨w.heap.size + 2, 1, none⟩) (by simp; omega)).trans f1
              have BL : Below w.heap.size w W6 := hbl.trans (B6.mono (by omega))
              clear r0 r1 f0 f1 u0 u1 B6 hlt9
              go_wp2_with fail
              refine bodyPost_ret (v := .tuple #[.agg #[.int .i64 0, .int .i64 0], .int .i64 9]) (by simp [results, Try.results37, go_sem, *]) rfl ⟨by rw [HFin.out, if_pos HLt.out], ?_⟩
              repeat (first | exact BL | refine Below.setCell ?_ (by simp <;> omega) _)
            · have HLt := hid hlt9
              go_wp2_with fail
              refine (show Calls Try.prog 83 #[.agg #[.int .i64 fs.1, .int .i64 fs.2]] _ (fun e w' => e = .returned (.bool false) ∧ _) from by have := empty_any fs.1 fs.2 wr; rwa [decide_eq_false (p := fs.2 < fs.1) (by omega)] at this).mono ?_
              rintro e W6 ⟨rfl, B6⟩
              have s6 := B6.size
              have r0' := (B6.cell (p := ⟨w.heap.size + 2, 0, none⟩) (by simp; omega)).trans r0
              have r1' := (B6.cell (p := ⟨w.heap.size + 2, 1, none⟩) (by simp; omega)).trans r1
              have f0' := (B6.frozen (p := ⟨w.heap.size + 2, 0, none⟩) (by simp; omega)).trans f0
              have f1' := (B6.frozen (p := ⟨w.heap.size + 2, 1, none⟩) (by simp; omega)).trans f1
              have u0' := (B6.cell (p := ⟨W3.heap.size, 0, none⟩) hszj).trans u0
              have u1' := (B6.cell (p := ⟨W3.heap.size, 1, none⟩) hszj).trans u1
              have BL : Below w.heap.size w W6 := hbl.trans (B6.mono (by omega))
              clear r0 r1 f0 f1 u0 u1 B6 hlt9
              go_wp2_with fail
              refine bodyPost_ret (v := .tuple #[.agg #[.int .i64 fs.1, .int .i64 fs.2], .int .i64 0]) (by simp [results, Try.results37, go_sem, *]) rfl ⟨by rw [HFin.out, if_neg (by have := HLt.out; omega)], ?_⟩
              repeat (first | exact BL | refine Below.setCell ?_ (by simp <;> omega) _)
      · have he' : (fitE g n x L != 0) = true := by simp [he]
        have HE := hid he; clear he
        have r0 := R0'.out; have r1 := R1'.out; have f0 := RF'.out 0; have f1 := RF'.out 1
        have HFe := hid (show fitP g n x L = ((0, 0), fitE g n x L) by rw [HP.out, if_neg (by simp [HQ.out]), if_pos HE.out])
        generalize fitE g n x L = fe at *
        go_wp2_with fail
        refine bodyPost_ret (v := .tuple #[.agg #[.int .i64 0, .int .i64 0], .int .i64 fe]) (by simp [results, Try.results37, go_sem, *]) rfl ⟨by rw [HFe.out], ?_⟩
        repeat (first | exact BW3 | refine Below.setCell ?_ (by simp <;> omega) _)
  · have hq' : (q.2.2 != 0) = true := by simp [hq]
    have HQ := hid hq; clear hq
    obtain ⟨c0, c1, c2, c3, c4⟩ := HBx.out
    have r0 := R0.out; have r1 := R1.out; have f0 := RF.out 0; have f1 := RF.out 1
    go_wp2_with fail
    refine bodyPost_ret (v := .tuple #[.agg #[.int .i64 0, .int .i64 0], .int .i64 q.2.2]) (by simp [results, Try.results37, go_sem, *]) rfl ⟨by rw [HP.out, if_pos HQ.out], ?_⟩
    repeat (first | exact BW | refine Below.setCell ?_ (by simp <;> omega) _)
end Go.Proofs.Ytblneiegekdnjaa
