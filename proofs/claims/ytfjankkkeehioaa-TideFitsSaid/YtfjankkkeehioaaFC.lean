/- Tide, part FC: Fit of the reference. -/
import Derived.Test.YtfjankkkeehioaaFA
import Derived.Test.YtfjankkkeehioaaTV
import Derived.Test.YtfjankkkeehioaaTX
import Derived.Lib.MinMax
set_option linter.all false
namespace Go.Proofs.Ytfjankkkeehioaa
open Go.RowKit

theorem someVF (e : Int) (x n : Int) (w : World) (he : someE x n = e) :
    Calls Try.prog 65 #[.int .i64 x, .int .i64 n] w fun r w' => r = .returned (.int .i64 e) ∧ w = w' := by
  rw [← he]; exact rsome_any x n w
theorem areTicksV (v : Bool) (x n : Int) (w : World) (h0 : 0 ≤ n) (h1 : n ≤ 400) (hv : ticksB x n = v) :
    Calls Try.prog 64 #[.int .i64 x, .int .i64 n] w fun r w' => r = .returned (.bool v) ∧ w = w' := by
  rw [← hv]; exact areTicks_any x n h0 (by omega) w
theorem someE_okF {x n : Int} (h : someE x n = 0) : ∃ m : Nat, n = m ∧ m ≤ 400 ∧ ticksB x m = true := by
  unfold someE at h
  split at h
  · cases h
  rename_i h1
  split at h
  · cases h
  rename_i h2
  have := inB_iff.1 (by simpa using h1)
  refine ⟨n.toNat, by omega, by omega, ?_⟩
  rw [show ((n.toNat : Nat) : Int) = n by omega]; simpa using h2
theorem rsayDatumF {g : Gau} {p : GPos} {t v : Int} {q : Nat} {da ra : Option Addr} {V : World} (h : ∀ w : World, GauOk w p g → Calls Try.prog 90 #[.agg #[.string g.name, .int .i64 g.err, .int .i64 g.rate, .slice p.da g.ds.length p.dc, .slice p.ra g.rs.length p.rc], .agg #[.int .i64 t, .int .i64 v]] w fun e w' => e = .returned (.int .i64 q) ∧ Below w.heap.size w w')
    (hd : p.da = da) (hr : p.ra = ra) (hok : ∀ W, Below V.heap.size V W → GauOk W p g) (W : World) (hW : Below V.heap.size V W) :
    Calls Try.prog 90 #[.agg #[.string g.name, .int .i64 g.err, .int .i64 g.rate, .slice da g.ds.length p.dc, .slice ra g.rs.length p.rc], .agg #[.int .i64 t, .int .i64 v]] W fun e w' => e = .returned (.int .i64 q) ∧ Below W.heap.size W w' := by
  subst hd hr; exact h W (hok W hW)
theorem fitE_list {g : Gau} {n x : Int} {L : List (Int × Int)} (h1 : inB n 0 ((g.ds.length : Int) - 1) = true) (h2 : someE x L.length = 0) : fitE g n x L = (eachP (lvE L) 0 L.length).2 := by
  obtain ⟨m, hm, h4, h5⟩ := someE_okF h2
  obtain rfl : L.length = m := by omega
  unfold fitE
  rw [if_neg (by simp [h1]), if_neg (by omega), if_neg (by simp [h5])]
theorem fitE_some {g : Gau} {n x : Int} {L : List (Int × Int)} (h1 : inB n 0 ((g.ds.length : Int) - 1) = true) (h2 : someE x L.length ≠ 0) : fitE g n x L = someE x L.length := by
  unfold someE at h2 ⊢
  unfold fitE
  rw [if_neg (by simp [h1])]
  by_cases h : 400 < L.length
  · rw [if_pos h, if_pos (by rw [inB_no]; omega)]
  · rw [if_neg h]
    have hb : inB (L.length : Int) 0 400 = true := inB_iff.2 ⟨by omega, by omega⟩
    rw [hb] at h2 ⊢
    simp only [Bool.true_eq_false, if_false] at h2 ⊢
    cases ht : ticksB x L.length
    · simp
    · rw [ht] at h2; simp at h2

set_option maxRecDepth 100000 in
set_option maxHeartbeats 8000000 in
theorem rfitFn_any (g : Gau) (p : GPos) (n x : Int) (la : Option Addr) (lc : Nat) (L : List (Int × Int)) (w : World) (hok : GauOk w p g) (hll : L.length ≤ 140737488355328) (hL : SpansAt w la L) :
    Calls Try.prog 38 #[.agg #[.string g.name, .int .i64 g.err, .int .i64 g.rate, .slice p.da g.ds.length p.dc, .slice p.ra g.rs.length p.rc], .int .i64 n, .int .i64 x, .slice la L.length lc] w
      fun e w' => e = .returned (.tuple #[.agg #[.int .i64 (fitP g n x L).1.1, .int .i64 (fitP g n x L).1.2], .int .i64 (fitP g n x L).2]) ∧ Below w.heap.size w w' := by
  have HH := hid hok; have HSp := hid hL; clear hok hL
  have HP := hid (fitP_eq g n x L)
  go_enter Try.func38, Try.ntmps38
  go_wp2_with fail
  generalize hW1 : World.alloc (World.alloc w _) _ = W1
  have B1 : Below w.heap.size w W1 := by rw [← hW1]; repeat (first | exact Below.refl _ _ | refine Below.alloc ?_ (by simp <;> omega) _)
  have S1 : w.heap.size + 1 < W1.heap.size := by rw [← hW1]; simp
  have hbox : GauBox W1 w.heap.size g p := by rw [← hW1]; exact ⟨by simp [go_sem], by simp [go_sem], by simp [go_sem], by simp [go_sem], by simp [go_sem]⟩
  have r0 : W1.cell? ⟨w.heap.size + 1, 0, none⟩ = some (.int .i64 0) := by rw [← hW1]; simp [go_sem]
  have r1 : W1.cell? ⟨w.heap.size + 1, 1, none⟩ = some (.int .i64 0) := by rw [← hW1]; simp [go_sem]
  have rf : ∀ o, W1.frozen? ⟨w.heap.size + 1, o, none⟩ = false := by intro o; rw [← hW1]; simp [go_sem]
  clear hW1
  refine (rcheckGauge_any g p _ (HH.out.later B1 (Nat.le_refl _))).mono ?_
  rintro e W2 ⟨rfl, B2⟩
  have hs2 := B2.size
  have HBx := hid (hbox.later B2 (by omega))
  have R0 := hid ((B2.cell (p := ⟨w.heap.size + 1, 0, none⟩) (by simp; omega)).trans r0)
  have R1 := hid ((B2.cell (p := ⟨w.heap.size + 1, 1, none⟩) (by simp; omega)).trans r1)
  have RF := hid (show ∀ o, W2.frozen? ⟨w.heap.size + 1, o, none⟩ = false from fun o => (B2.frozen (p := ⟨w.heap.size + 1, o, none⟩) (by simp; omega)).trans (rf o))
  have BW : Below w.heap.size w W2 := B1.trans (B2.mono (by omega))
  have S2 : w.heap.size + 1 < W2.heap.size := by omega
  have HGd := hid (fun h => gauGood (g := g) h)
  clear hbox r0 r1 rf
  generalize gaugeP g = q at *
  have hdl : (g.ds.length : Int) ≤ 140737488355328 := by have := HH.out.wf.dcap; omega
  have hrl : g.rs.length ≤ 140737488355328 := by have h1 := HH.out.wf.rlen; have h2 := HH.out.wf.rcap; omega
  by_cases hq : q.2.2 = 0
  · have hq' : (q.2.2 != 0) = false := by simp [hq]
    have HQ := hid hq
    have HG := hid (HGd.out hq)
    clear hq HGd
    obtain ⟨c0, c1, c2, c3, c4⟩ := HBx.out
    cases hn : inB n 0 ((g.ds.length : Int) - 1)
    · have HN := hid hn
      have r0 := R0.out; have r1 := R1.out; have f0 := RF.out 0; have f1 := RF.out 1
      go_wp2_with (go_at_call 55; refine (rin_val _ _ _ _ _ (by assumption)).mono ?_; rintro e w' ⟨rfl, rfl⟩)
      refine bodyPost_ret (v := .tuple #[.agg #[.int .i64 0, .int .i64 0], .int .i64 4]) (by simp [results, Try.results38, go_sem, *]) rfl ⟨by rw [HP.out, if_neg (by simp [HQ.out])]; simp [fitE, HN.out], ?_⟩
      repeat (first | exact BW | refine Below.setCell ?_ (by simp) _)
    have HN := hid hn
    obtain ⟨m, rfl⟩ : ∃ m : Nat, n = m := ⟨n.toNat, by have := (inB_iff.1 hn).1; omega⟩
    have hmd : m < g.ds.length := by have := (inB_iff.1 hn).2; omega
    obtain ⟨se, hse⟩ : ∃ se, someE x L.length = se := ⟨_, rfl⟩
    have HSe := hid hse
    by_cases hs0 : se = 0
    · have hs' : (se != 0) = false := by simp [hs0]
      have HE := hid (fitE_list (g := g) hn (show someE x L.length = 0 by rw [hse, hs0]))
      have HSo := hid (someE_okF (show someE x L.length = 0 by rw [hse, hs0]))
      clear hs0 hse
      go_wp2_with (first
        | (go_at_call 55; refine (rin_val _ _ _ _ _ (by assumption)).mono ?_; rintro e w' ⟨rfl, rfl⟩)
        | (go_at_call 65; refine (someVF _ _ _ _ HSe.out).mono ?_; rintro e w' ⟨rfl, rfl⟩))
      have C0 := hid c0; clear c0 c1 c2 c3 c4
      go_loopw [13] (fun i wr => ∃ k : Nat, k ≤ L.length ∧ i = .int .i64 k ∧ Hid (eachP (lvE L) 0 L.length = eachP (lvE L) k (L.length - k)) ∧ Below W2.heap.size W2 wr) (fun i _ => L.length - (intOf i).toNat)
      case atStart => exact ⟨0, Nat.zero_le _, rfl, hid rfl, Below.refl _ _⟩
      case round =>
        obtain ⟨k, hk, rfl, hrel, hbw⟩ := hrel
        have hsz := hbw.size
        have hbl : Below w.heap.size w wr := BW.trans (hbw.mono (by omega))
        have r0 := (hbw.cell (p := ⟨w.heap.size + 1, 0, none⟩) S2).trans R0.out
        have r1 := (hbw.cell (p := ⟨w.heap.size + 1, 1, none⟩) S2).trans R1.out
        have f0 := (hbw.frozen (p := ⟨w.heap.size + 1, 0, none⟩) S2).trans (RF.out 0)
        have f1 := (hbw.frozen (p := ⟨w.heap.size + 1, 1, none⟩) S2).trans (RF.out 1)
        have n1 : w.heap.size + 1 ≠ wr.heap.size := by omega
        have l1 : w.heap.size + 1 < wr.heap.size := by omega
        by_cases hlt : k < L.length
        · rcases HSp.out with h0 | ⟨b, o, rfl, hs, hc⟩
          · rw [h0] at hlt; simp at hlt
          have y0 := (hbl.cell (p := ⟨b, o + k * 2, none⟩) hs).trans (hc k hlt).1
          have y1 := (hbl.cell (p := ⟨b, o + k * 2 + 1, none⟩) hs).trans (hc k hlt).2
          have HLv := hid (show lvE L k = if insB L[k].1 L[k].2 (-20000) 20000 = true then 0 else 2 by unfold lvE; rw [show L.getD k (0, 0) = L[k] by simp [List.getD, hlt]])
          have HYes := hid (fun he => eachP_yes (f := lvE L) (k := k) hlt he)
          have HNo := hid (fun he => eachP_no (f := lvE L) (k := k) hlt he)
          have hkl : (k : Int) < (L.length : Int) := by omega
          clear hc
          generalize L[k] = s at *
          have hways : s.2 < s.1 ∨ (s.1 ≤ s.2 ∧ inB s.1 (-20000) 20000 = false) ∨ (s.1 ≤ s.2 ∧ inB s.1 (-20000) 20000 = true ∧ inB s.2 (-20000) 20000 = false) ∨ (s.1 ≤ s.2 ∧ inB s.1 (-20000) 20000 = true ∧ inB s.2 (-20000) 20000 = true) := by
            by_cases h1 : s.2 < s.1
            · exact .inl h1
            · cases h2 : inB s.1 (-20000) 20000
              · exact .inr (.inl ⟨by omega, rfl⟩)
              · cases h3 : inB s.2 (-20000) 20000
                · exact .inr (.inr (.inl ⟨by omega, rfl, rfl⟩))
                · exact .inr (.inr (.inr ⟨by omega, rfl, rfl⟩))
          rcases hways with h1 | ⟨h1, h2⟩ | ⟨h1, h2, h3⟩ | ⟨h1, h2, h3⟩
          rotate_right
          · have hok : insB s.1 s.2 (-20000) 20000 = true := insB_iff.2 ⟨(inB_iff.1 h2).1, h1, (inB_iff.1 h3).2⟩
            have hz : lvE L k = 0 := by rw [HLv.out, if_pos hok]
            have HN2 := hid (HNo.out hz)
            clear hok hz
            go_wp2_with (go_at_call 55; refine (rin_val _ _ _ _ _ (by assumption)).mono ?_; rintro e w' ⟨rfl, rfl⟩)
            refine ⟨⟨k + 1, by omega, by go_num, hid (by rw [hrel.out]; exact HN2.out), hbw.alloc hsz _⟩, by simp [intOf]; omega⟩
          all_goals
            have hbad : insB s.1 s.2 (-20000) 20000 = false := by
              rw [insB_no]
              first
                | omega
                | (have h2' := inB_no.1 h2; omega)
                | (have h3' := inB_no.1 h3; omega)
            have hz : lvE L k = 2 := by rw [HLv.out, hbad]; rfl
            have hf : (eachP (lvE L) 0 L.length).2 = 2 := by rw [hrel.out, HYes.out (by rw [hz]; decide), hz]
            have HF := hid hf
            clear hbad hz hf
            go_wp2_with (go_at_call 55; refine (rin_val _ _ _ _ _ (by assumption)).mono ?_; rintro e w' ⟨rfl, rfl⟩)
            refine bodyPost_ret (v := .tuple #[.agg #[.int .i64 0, .int .i64 0], .int .i64 2]) (by simp [results, Try.results38, go_sem, *]) rfl ⟨by rw [HP.out, if_neg (by simp [HQ.out]), HE.out, HF.out]; rfl, ?_⟩
            repeat (first | exact hbl | refine Below.setCell ?_ (by simp) _ | refine Below.alloc ?_ (by simp <;> omega) _)
        · obtain rfl : k = L.length := by omega
          have hE0 : fitE g (m : Int) x L = 0 := by rw [HE.out, hrel.out, Nat.sub_self]; rfl
          have HOkE := hid (fitE_ok hE0)
          have HE0 := hid hE0
          clear hE0 hrel r0 r1 f0 f1
          obtain ⟨c0, c1, c2, c3, c4⟩ := HBx.out.later hbw (by omega)
          rcases HH.out.ds with h0 | ⟨db, do_, hda, hds, hdc⟩
          · rw [h0] at hmd; simp at hmd
          obtain ⟨_, d1, d2⟩ := DatAt.later hbl _ _ _ hds (hdc m hmd)
          have c3' := c3
          rw [hda] at c3'
          have HDa := hid hda
          have HF0 := hid (show fitFold g (m : Int) x L 0 = (g.ds[m].lo, g.ds[m].hi) by unfold fitFold; simp [List.getD, hmd])
          generalize g.ds[m] = dd at *
          have hml : (m : Int) < (g.ds.length : Int) := by omega
          clear c0 c1 c2 c3 c4 hda hdc
          obtain ⟨V1, hV1⟩ : ∃ V, V = wr := ⟨_, rfl⟩
          subst hV1
          go_wp2_with fail
          generalize hW4 : World.alloc V1 _ = W4
          have B4 : Below V1.heap.size V1 W4 := by rw [← hW4]; exact (Below.refl _ _).alloc (Nat.le_refl _) _
          have S4 : V1.heap.size < W4.heap.size := by rw [← hW4]; simp
          have Q0 := hid (show W4.cell? ⟨V1.heap.size, 0, none⟩ = some (.int .i64 dd.lo) by rw [← hW4]; simp [go_sem])
          have Q1 := hid (show W4.cell? ⟨V1.heap.size, 1, none⟩ = some (.int .i64 dd.hi) by rw [← hW4]; simp [go_sem])
          have QF := hid (show ∀ o, W4.frozen? ⟨V1.heap.size, o, none⟩ = false by intro o; rw [← hW4]; simp [go_sem])
          have BW4 : Below W2.heap.size W2 W4 := hbw.trans (B4.mono hsz)
          clear hW4 d1 d2 c3'
          go_loopw [16] (fun i wr => ∃ k : Nat, k ≤ g.rs.length ∧ i = .int .i64 k ∧ Hid (wr.cell? ⟨V1.heap.size, 0, none⟩ = some (.int .i64 (fitFold g (m : Int) x L k).1)) ∧ Hid (wr.cell? ⟨V1.heap.size, 1, none⟩ = some (.int .i64 (fitFold g (m : Int) x L k).2)) ∧
            Hid (∀ o, wr.frozen? ⟨V1.heap.size, o, none⟩ = false) ∧ Below V1.heap.size W4 wr) (fun i _ => g.rs.length - (intOf i).toNat)
          case atStart => exact ⟨0, Nat.zero_le _, rfl, hid (by rw [HF0.out]; exact Q0.out), hid (by rw [HF0.out]; exact Q1.out), QF, Below.refl _ _⟩
          case round =>
            obtain ⟨k, hk, rfl, hq0, hq1, hqf, hbj⟩ := hrel
            have hszj : V1.heap.size < wr.heap.size := Nat.lt_of_lt_of_le S4 hbj.size
            have hb2 : Below W2.heap.size W2 wr := BW4.trans (hbj.mono hsz)
            have hbl2 : Below w.heap.size w wr := BW.trans (hb2.mono (by omega))
            have n1 : w.heap.size ≠ wr.heap.size := by omega
            have n2 : V1.heap.size ≠ wr.heap.size := by omega
            have n3 : w.heap.size < wr.heap.size := by omega
            obtain ⟨c0, c1, c2, c3, c4⟩ := HBx.out.later hb2 (by omega)
            by_cases hltj : k < g.rs.length
            · rcases HH.out.rs with h0 | ⟨b, o, hra, hs, hc⟩
              · rw [h0] at hltj; simp at hltj
              obtain ⟨q0, q1⟩ := RdgAt.later hbl2 _ _ _ hs (hc k hltj)
              have HSn := hid (fitFold_snoc g (m : Int) x L k hltj)
              have HRb := hid (HG.out.rdg k hltj)
              have hbr : b < wr.heap.size := by omega
              have hkl : (k : Int) < (g.rs.length : Int) := by omega
              clear hc
              generalize g.rs[k] = r at *
              obtain ⟨⟨rb1, rb2⟩, rb3, rb4⟩ := HRb.out
              have hdq := rdatum_any g p r.tick r.value
              have HNo := hid (fun h => fitStep_no (g := g) (n := (m : Int)) (x := x) (L := L) (s := fitFold g (m : Int) x L k) (r := r) h)
              have HYes := hid (fun h h2 (mm : Nat) hm hml => fitStep_yes (g := g) (n := (m : Int)) (x := x) (L := L) (s := fitFold g (m : Int) x L k) (r := r) h h2 (m := mm) hm hml)
              have HTold := hid (toldB_iff (L := L) (x := x) (t := r.tick))
              generalize dIdx g.ds r.tick g.ds.length = di at *
              generalize toldB L x r.tick = td at *
              have HDq := hid hdq; clear hdq
              rw [hra] at c4
              have HRa := hid hra; clear hra
              go_wp2_with fail
              generalize hV : World.alloc wr _ = V
              have BV : Below wr.heap.size wr V := by rw [← hV]; exact (Below.refl _ _).alloc (Nat.le_refl _) _
              have SV : wr.heap.size < V.heap.size := by rw [← hV]; simp
              have x0 : V.cell? ⟨wr.heap.size, 0, none⟩ = some (.int .i64 r.tick) := by rw [← hV]; simp [go_sem]
              have x1 : V.cell? ⟨wr.heap.size, 1, none⟩ = some (.int .i64 r.value) := by rw [← hV]; simp [go_sem]
              have HOk : Hid (∀ W, Below V.heap.size V W → GauOk W p g) := hid fun W hW => HH.out.later (hbl2.trans ((BV.mono (by omega)).trans (hW.mono (by omega)))) (Nat.le_refl _)
              clear hV
              refine Calls.mono (rsayDatumF HDq.out rfl HRa.out HOk.out _ (Below.refl _ _)) ?_
              rintro e W5 ⟨rfl, B5⟩
              have s5 := B5.size
              have BV5 : Below wr.heap.size wr W5 := BV.trans (B5.mono (by omega))
              have x0' := (B5.cell (p := ⟨wr.heap.size, 0, none⟩) SV).trans x0
              have x1' := (B5.cell (p := ⟨wr.heap.size, 1, none⟩) SV).trans x1
              have e1 := (BV5.cell (p := ⟨w.heap.size, 1, none⟩) n3).trans c1
              have u0 := (BV5.cell (p := ⟨V1.heap.size, 0, none⟩) hszj).trans hq0.out
              have u1 := (BV5.cell (p := ⟨V1.heap.size, 1, none⟩) hszj).trans hq1.out
              have uf : ∀ o, W5.frozen? ⟨V1.heap.size, o, none⟩ = false := fun o => (BV5.frozen (p := ⟨V1.heap.size, o, none⟩) hszj).trans (hqf.out o)
              have uf0 := uf 0
              have uf1 := uf 1
              have HUf := hid uf
              have BJ5 : Below V1.heap.size W4 W5 := hbj.trans (BV5.mono (by omega))
              have hbl5 : Below w.heap.size w W5 := hbl2.trans (BV5.mono (by omega))
              have n6 : V1.heap.size ≠ W5.heap.size := by omega
              have l6 : V1.heap.size < W5.heap.size := by omega
              have l7 : w.heap.size < W5.heap.size := by omega
              have l8 : wr.heap.size < W5.heap.size := by omega
              have n7 : w.heap.size ≠ W5.heap.size := by omega
              have n8 : wr.heap.size ≠ W5.heap.size := by omega
              have n9 : w.heap.size ≠ V1.heap.size := by omega
              have U0 := hid u0; have U1 := hid u1
              generalize fitFold g (m : Int) x L k = fs at *
              clear c0 c1 c2 c3 c4 q0 q1 x0 x1 BV B5 uf hq0 hq1 hqf
              obtain ⟨he0, he1⟩ := HG.out.err
              have hlen4 := HOkE.out.2.1
              have htk := hid (ticksB_iff.1 HOkE.out.2.2.1)
              have hways : (di ≠ m) ∨ (di = m ∧ L.length = 0) ∨ (di = m ∧ 0 < L.length ∧ inB r.tick x (x + L.length - 1) = false) ∨ (di = m ∧ 0 < L.length ∧ inB r.tick x (x + L.length - 1) = true) := by
                by_cases h1 : di = m
                · by_cases h2 : L.length = 0
                  · exact .inr (.inl ⟨h1, h2⟩)
                  · cases h3 : inB r.tick x (x + L.length - 1)
                    · exact .inr (.inr (.inl ⟨h1, by omega, rfl⟩))
                    · exact .inr (.inr (.inr ⟨h1, by omega, rfl⟩))
                · exact .inl h1
              rcases hways with h1 | ⟨h1, h2⟩ | ⟨h1, h2, h3⟩ | ⟨h1, h2, h3⟩
              · have t1 : ((di : Int) != (m : Int)) = true := by rw [bne_iff_ne]; omega
                have hn := HNo.out (by rintro ⟨_, h⟩; omega)
                have HN2 := hid hn; clear hn h1
                go_wp2_with fail
                refine ⟨⟨k + 1, by omega, by go_num, hid (by rw [HSn.out, HN2.out]; exact U0.out), hid (by rw [HSn.out, HN2.out]; exact U1.out), HUf, BJ5⟩, by simp [intOf]; omega⟩
              · have t1 : ((di : Int) != (m : Int)) = false := by rw [bne_eq_false_iff_eq]; omega
                have t2 : ((L.length : Int) == 0) = true := by rw [beq_iff_eq]; omega
                have hn := HNo.out (by rintro ⟨h, _⟩; have := HTold.out.1 h; omega)
                have HN2 := hid hn; clear hn h1 h2
                go_wp2_with fail
                refine ⟨⟨k + 1, by omega, by go_num, hid (by rw [HSn.out, HN2.out]; exact U0.out), hid (by rw [HSn.out, HN2.out]; exact U1.out), HUf, BJ5⟩, by simp [intOf]; omega⟩
              · have t1 : ((di : Int) != (m : Int)) = false := by rw [bne_eq_false_iff_eq]; omega
                have t2 : ((L.length : Int) == 0) = false := by rw [beq_eq_false_iff_ne]; omega
                have hn := HNo.out (by rintro ⟨h, _⟩; have h4 := HTold.out.1 h; have h5 := inB_no.1 h3; omega)
                have HN2 := hid hn
                have hx := htk.out
                have hx2 : 0 ≤ x ∧ x ≤ 200000 := by omega
                obtain ⟨hx21, hx22⟩ := hx2
                clear hn h1 hx
                go_wp2_with (go_at_call 55; refine (rin_val _ _ _ _ _ (by assumption)).mono ?_; rintro e w' ⟨rfl, rfl⟩)
                refine ⟨⟨k + 1, by omega, by go_num, hid (by rw [HSn.out, HN2.out]; exact U0.out), hid (by rw [HSn.out, HN2.out]; exact U1.out), HUf, BJ5⟩, by simp [intOf]; omega⟩
              · have t1 : ((di : Int) != (m : Int)) = false := by rw [bne_eq_false_iff_eq]; omega
                have t2 : ((L.length : Int) == 0) = false := by rw [beq_eq_false_iff_ne]; omega
                have hx := htk.out
                have hx2 : 0 ≤ x ∧ x ≤ 200000 := by omega
                obtain ⟨hx21, hx22⟩ := hx2
                have h3' := inB_iff.1 h3
                obtain ⟨mm, hmm⟩ : ∃ mm : Nat, r.tick - x = mm := ⟨(r.tick - x).toNat, by omega⟩
                have hmml : mm < L.length := by omega
                have hmml' : (mm : Int) < (L.length : Int) := by omega
                have hy := HYes.out (HTold.out.2 ⟨h2, h3'⟩) (by omega) mm hmm hmml
                have HY2 := hid hy
                rcases HSp.out with h0 | ⟨lb, lo, rfl, hls, hlc⟩
                · rw [h0] at h2; simp at h2
                have y0 := (hbl5.cell (p := ⟨lb, lo + mm * 2, none⟩) hls).trans (hlc mm hmml).1
                have y1 := (hbl5.cell (p := ⟨lb, lo + mm * 2 + 1, none⟩) hls).trans (hlc mm hmml).2
                have hlbd := HOkE.out.2.2.2 mm hmml
                generalize L[mm] = lv at *
                obtain ⟨hl1, hl2, hl3⟩ := hlbd
                clear hy h1 hx hlc h3'
                go_wp2_with (go_at_call 55; refine (rin_val _ _ _ _ _ (by assumption)).mono ?_; rintro e w' ⟨rfl, rfl⟩)
                have hrs := row_set (w := W5) (lb := V1.heap.size) (i := 0) (.int .i64 (max fs.1 (r.value - g.err - lv.2))) (.int .i64 (min fs.2 (r.value + g.err - lv.1))) U0.out U1.out
                simp only [Nat.zero_mul, Nat.zero_add] at hrs
                refine ⟨⟨k + 1, by omega, by go_num, hid ?_, hid ?_, hid ?_, ?_⟩, by simp [intOf]; omega⟩
                · rw [HSn.out, HY2.out]; exact (((Below.refl _ _).alloc (Nat.le_refl _) _).cell (p := ⟨V1.heap.size, 0, none⟩) (by simpa using l6)).trans hrs.1
                · rw [HSn.out, HY2.out]; exact (((Below.refl _ _).alloc (Nat.le_refl _) _).cell (p := ⟨V1.heap.size, 1, none⟩) (by simpa using l6)).trans hrs.2.1
                · intro o; have := HUf.out o; simpa [go_sem, n6, l6] using this
                · exact ((BJ5.setCell (p := ⟨V1.heap.size, 0, none⟩) (Nat.le_refl _) _).setCell (p := ⟨V1.heap.size, 1, none⟩) (Nat.le_refl _) _).alloc (by simp; omega) _
            · obtain rfl : k = g.rs.length := by omega
              have r0 := (hb2.cell (p := ⟨w.heap.size + 1, 0, none⟩) S2).trans R0.out
              have r1 := (hb2.cell (p := ⟨w.heap.size + 1, 1, none⟩) S2).trans R1.out
              have f0 := (hb2.frozen (p := ⟨w.heap.size + 1, 0, none⟩) S2).trans (RF.out 0)
              have f1 := (hb2.frozen (p := ⟨w.heap.size + 1, 1, none⟩) S2).trans (RF.out 1)
              have u0 := hq0.out
              have u1 := hq1.out
              have n4 : w.heap.size + 1 ≠ V1.heap.size := by omega
              have HFin := hid (show fitP g (m : Int) x L = if (fitFold g (m : Int) x L g.rs.length).2 < (fitFold g (m : Int) x L g.rs.length).1 then ((0, 0), 9) else (fitFold g (m : Int) x L g.rs.length, 0) by rw [HP.out, if_neg (by simp [HQ.out]), if_neg (by simp [HE0.out])])
              generalize fitFold g (m : Int) x L g.rs.length = fs at *
              clear hq0 hq1 hqf c0 c1 c2 c3
              by_cases hlt9 : fs.2 < fs.1
              · have HLt := hid hlt9
                go_wp2_with fail
                refine bodyPost_ret (v := .tuple #[.agg #[.int .i64 0, .int .i64 0], .int .i64 9]) (by simp [results, Try.results38, go_sem, *]) rfl ⟨by rw [HFin.out, if_pos HLt.out], ?_⟩
                repeat (first | exact hbl2 | refine Below.setCell ?_ (by simp) _)
              · have HLt := hid hlt9
                have hle9 : fs.1 ≤ fs.2 := by omega
                clear hlt9
                go_wp2_with fail
                refine bodyPost_ret (v := .tuple #[.agg #[.int .i64 fs.1, .int .i64 fs.2], .int .i64 0]) (by simp [results, Try.results38, go_sem, *]) rfl ⟨by rw [HFin.out, if_neg (by have := HLt.out; omega)], ?_⟩
                repeat (first | exact hbl2 | refine Below.setCell ?_ (by simp) _)
    · have hs' : (se != 0) = true := by simp [hs0]
      have HE := hid (fitE_some (g := g) hn (show someE x L.length ≠ 0 by rw [hse]; exact hs0))
      have HS0 := hid hs0
      clear hs0 hse
      have r0 := R0.out; have r1 := R1.out; have f0 := RF.out 0; have f1 := RF.out 1
      go_wp2_with (first
        | (go_at_call 55; refine (rin_val _ _ _ _ _ (by assumption)).mono ?_; rintro e w' ⟨rfl, rfl⟩)
        | (go_at_call 65; refine (someVF _ _ _ _ HSe.out).mono ?_; rintro e w' ⟨rfl, rfl⟩))
      refine bodyPost_ret (v := .tuple #[.agg #[.int .i64 0, .int .i64 0], .int .i64 se]) (by simp [results, Try.results38, go_sem, *]) rfl ⟨by rw [HP.out, if_neg (by simp [HQ.out]), HE.out, HSe.out, if_pos HS0.out], ?_⟩
      repeat (first | exact BW | refine Below.setCell ?_ (by simp) _)
  · have hq' : (q.2.2 != 0) = true := by simp [hq]
    have HQ := hid hq; clear hq
    obtain ⟨c0, c1, c2, c3, c4⟩ := HBx.out
    have r0 := R0.out; have r1 := R1.out; have f0 := RF.out 0; have f1 := RF.out 1
    go_wp2_with fail
    refine bodyPost_ret (v := .tuple #[.agg #[.int .i64 0, .int .i64 0], .int .i64 q.2.2]) (by simp [results, Try.results38, go_sem, *]) rfl ⟨by rw [HP.out, if_pos HQ.out], ?_⟩
    repeat (first | exact BW | refine Below.setCell ?_ (by simp) _)
end Go.Proofs.Ytfjankkkeehioaa
