/- Tide, part W: what a gauge says, the reference. -/
import Derived.Test.YtblneiegekdnjaaGreatTM
import Derived.Test.YtblneiegekdnjaaGreatTV
import Derived.Lib.MinMax
set_option linter.all false
namespace Go.Proofs.YtblneiegekdnjaaGreat
open Go.RowKit

theorem asc_all {l : List Rdg} {a : Rdg} (h : ∀ i (h : i + 1 < (a :: l).length), (a :: l)[i].tick < (a :: l)[i + 1].tick) : ∀ x ∈ l, a.tick < x.tick := by
  induction l generalizing a with
  | nil => intro x hx; cases hx
  | cons b l ih =>
    have h0 := h 0 (by simp)
    have h1 := ih (a := b) (fun i hi => by have := h (i + 1) (by simpa using hi); simpa using this)
    intro x hx
    rcases List.mem_cons.1 hx with rfl | hx
    · simpa using h0
    · have := h1 x hx
      simp at h0
      omega
theorem filter_while {l : List Rdg} {now : Int} (h : ∀ i (h : i + 1 < l.length), l[i].tick < l[i + 1].tick) : l.filter (fun r => decide (r.tick ≤ now)) = l.takeWhile fun r => decide (r.tick ≤ now) := by
  induction l with
  | nil => rfl
  | cons a l ih =>
    have hs := asc_all h
    have ih := ih (fun i hi => by have := h (i + 1) (by simpa using hi); simpa using this)
    by_cases ha : a.tick ≤ now
    · simp [List.takeWhile_cons, ha, ih]
    · simp only [List.takeWhile_cons, ha, decide_false, List.filter_cons]
      simp only [Bool.false_eq_true, if_false]
      refine List.filter_eq_nil_iff.2 fun x hx => ?_
      have := hs x hx
      simp; omega
/-- The readings that are known, of the first k. -/
def knF (g : Gau) (now : Int) (k : Nat) : List Rdg := (g.rs.take k).filter fun r => decide (r.tick ≤ now)
theorem knF_yes {g : Gau} {now : Int} {k : Nat} (h : k < g.rs.length) (hn : g.rs[k].tick ≤ now) : knF g now (k + 1) = knF g now k ++ [g.rs[k]] := by
  unfold knF; rw [List.take_succ_eq_append_getElem h, List.filter_append]; simp [hn]
theorem knF_no {g : Gau} {now : Int} {k : Nat} (h : k < g.rs.length) (hn : ¬ g.rs[k].tick ≤ now) : knF g now (k + 1) = knF g now k := by
  unfold knF; rw [List.take_succ_eq_append_getElem h, List.filter_append]; simp [hn]
theorem sayFold_add (g : Gau) (t : Int) (l : List Rdg) (r : Rdg) : sayFold g t (l ++ [r]) = sayStep g t (sayFold g t l) r := by
  unfold sayFold; rw [List.foldl_append]; rfl
theorem sayP_knF {g : Gau} (hg : GauGood g) (t now : Int) : sayP g t now = sayOf g t (knF g now g.rs.length) := by
  unfold sayP knF; rw [List.take_length, filter_while hg.asc]

theorem rsayDatum {g : Gau} {p : GPos} {t v : Int} {q : Nat} {da ra : Option Addr} {V : World} (h : ∀ w : World, GauOk w p g → Calls Tryz.prog 101 #[.agg #[.string g.name, .int .i64 g.err, .int .i64 g.rate, .slice p.da g.ds.length p.dc, .slice p.ra g.rs.length p.rc], .agg #[.int .i64 t, .int .i64 v]] w fun e w' => e = .returned (.int .i64 q) ∧ Below w.heap.size w w')
    (hd : p.da = da) (hr : p.ra = ra) (hok : ∀ W, Below V.heap.size V W → GauOk W p g) (W : World) (hW : Below V.heap.size V W) :
    Calls Tryz.prog 101 #[.agg #[.string g.name, .int .i64 g.err, .int .i64 g.rate, .slice da g.ds.length p.dc, .slice ra g.rs.length p.rc], .agg #[.int .i64 t, .int .i64 v]] W fun e w' => e = .returned (.int .i64 q) ∧ Below W.heap.size W w' := by
  subst hd hr; exact h W (hok W hW)

set_option maxRecDepth 100000 in
set_option maxHeartbeats 2000000 in
theorem rsays_any (g : Gau) (p : GPos) (t now : Int) (w : World) (hok : GauOk w p g) (hg : GauGood g) (ht : 0 ≤ t ∧ t ≤ 200000) :
    Calls Tryz.prog 85 #[.agg #[.string g.name, .int .i64 g.err, .int .i64 g.rate, .slice p.da g.ds.length p.dc, .slice p.ra g.rs.length p.rc], .int .i64 t, .int .i64 now] w
      fun e w' => e = .returned (.tuple #[.agg #[.int .i64 (sayP g t now).1.1, .int .i64 (sayP g t now).1.2], .int .i64 (sayP g t now).2]) ∧ Below w.heap.size w w' := by
  have hrl := hok.wf.rlen
  have hrc := hok.wf.rcap
  have HH := hid hok; clear hok
  have HG := hid hg; clear hg
  obtain ⟨ht0, ht1⟩ := ht
  go_enter Tryz.func85, Tryz.ntmps85
  go_wp2_with fail
  generalize hW1 : World.alloc (World.alloc (World.alloc w _) _) _ = W1
  have B1 : Below w.heap.size w W1 := by rw [← hW1]; repeat (first | exact Below.refl _ _ | refine Below.alloc ?_ (by simp <;> omega) _)
  have S1 : w.heap.size + 2 < W1.heap.size := by rw [← hW1]; simp
  have hbox : GauBox W1 w.heap.size g p := by rw [← hW1]; exact ⟨by simp [go_sem], by simp [go_sem], by simp [go_sem], by simp [go_sem], by simp [go_sem]⟩
  have R0 := hid (show W1.cell? ⟨w.heap.size + 1, 0, none⟩ = some (.int .i64 0) by rw [← hW1]; simp [go_sem])
  have R1 := hid (show W1.cell? ⟨w.heap.size + 1, 1, none⟩ = some (.int .i64 0) by rw [← hW1]; simp [go_sem])
  have Z0 := hid (show ∀ o, W1.frozen? ⟨w.heap.size + 1, o, none⟩ = false by intro o; rw [← hW1]; simp [go_sem])
  have A0 := hid (show W1.cell? ⟨w.heap.size + 2, 0, none⟩ = some (.int .i64 (-20000)) by rw [← hW1]; simp [go_sem])
  have A1 := hid (show W1.cell? ⟨w.heap.size + 2, 1, none⟩ = some (.int .i64 20000) by rw [← hW1]; simp [go_sem])
  have AF := hid (show ∀ o, W1.frozen? ⟨w.heap.size + 2, o, none⟩ = false by intro o; rw [← hW1]; simp [go_sem])
  clear hW1
  have HB := hid hbox; clear hbox
  go_loopw [9, 10] (fun a i wr => ∃ k : Nat, k ≤ g.rs.length ∧ i = .int .i64 k ∧ (∃ av, a = .bool av ∧ Hid (av = decide (knF g now k ≠ []))) ∧
      Hid (wr.cell? ⟨w.heap.size + 2, 0, none⟩ = some (.int .i64 (sayFold g t (knF g now k)).1)) ∧ Hid (wr.cell? ⟨w.heap.size + 2, 1, none⟩ = some (.int .i64 (sayFold g t (knF g now k)).2)) ∧
      Hid (∀ o, wr.frozen? ⟨w.heap.size + 2, o, none⟩ = false) ∧ Below (w.heap.size + 2) W1 wr ∧ w.heap.size + 2 < wr.heap.size) (fun _ i _ => g.rs.length - (intOf i).toNat)
  case atStart => exact ⟨0, Nat.zero_le _, rfl, ⟨_, rfl, hid (by simp [knF])⟩, A0, A1, AF, Below.refl _ _, S1⟩
  case round =>
    obtain ⟨k, hk, rfl, ⟨av0, rfl, hav⟩, ha0, ha1, haf, hbw, hsz⟩ := hrel
    obtain ⟨c0, c1, c2, c3, c4⟩ := HB.out.later hbw (by omega)
    have hbl : Below w.heap.size w wr := B1.trans (hbw.mono (by omega))
    by_cases hlt : k < g.rs.length
    · rcases HH.out.rs with h0 | ⟨b, o, hra, hs, hc⟩
      · rw [h0] at hlt; simp at hlt
      obtain ⟨q0, q1⟩ := RdgAt.later hbl _ _ _ hs (hc k hlt)
      have HRb := hid (HG.out.rdg k hlt)
      have hbr : b < wr.heap.size := by omega
      have hbn : b ≠ wr.heap.size := by omega
      have hwn1 : w.heap.size ≠ wr.heap.size := by omega
      have hwn2 : w.heap.size < wr.heap.size := by omega
      clear hc
      by_cases hnow : g.rs[k].tick ≤ now
      · have HKy := hid (knF_yes hlt hnow)
        have hnow' : ¬ now < g.rs[k].tick := by omega
        clear hnow
        generalize hgk : g.rs[k] = r at *
        obtain ⟨rb1, rb2⟩ := HRb.out
        have hdb := datum_bd HG.out r.tick
        have hdq := rdatum_any g p r.tick r.value
        rcases HH.out.ds with h0 | ⟨db, do_, hda, hds, hdc⟩
        · have := HG.out.dlen; rw [h0] at this; simp at this
        have hd := DatAt.later hbl _ _ _ hds (hdc _ hdb.1)
        have hde : datumOf g r.tick = g.ds[dIdx g.ds r.tick g.ds.length]'hdb.1 := by simp [datumOf, List.getD, hdb.1]
        rw [← hde] at hd
        have HStep := hid (show sayStep g t (sayFold g t (knF g now k)) r = (max (sayFold g t (knF g now k)).1 (r.value - g.err - (datumOf g r.tick).hi - g.rate * awayOf t r), min (sayFold g t (knF g now k)).2 (r.value + g.err - (datumOf g r.tick).lo + g.rate * awayOf t r)) from rfl)
        have HDq := hid hdq; clear hdq hde hdc
        generalize datumOf g r.tick = d at *
        generalize hq : dIdx g.ds r.tick g.ds.length = q at *
        have HQ := hid hq; clear hq
        obtain ⟨hq1, hq2, hq3, hq4, hq5⟩ := hdb
        have hq1' : (q : Int) < (g.ds.length : Int) := by omega
        obtain ⟨_, d1, d2⟩ := hd
        rw [hda] at c3
        rw [hra] at c4
        have HRa := hid hra; have HDa := hid hda; clear hra hda
        go_wp2_with fail
        generalize hV : World.alloc wr _ = V
        have BV : Below wr.heap.size wr V := by rw [← hV]; exact (Below.refl _ _).alloc (Nat.le_refl _) _
        have SV : wr.heap.size < V.heap.size := by rw [← hV]; simp
        have x0 : V.cell? ⟨wr.heap.size, 0, none⟩ = some (.int .i64 r.tick) := by rw [← hV]; simp [go_sem]
        have x1 : V.cell? ⟨wr.heap.size, 1, none⟩ = some (.int .i64 r.value) := by rw [← hV]; simp [go_sem]
        clear hV
        have hdw : db < wr.heap.size := by omega
        have e0 := (BV.cell (p := ⟨w.heap.size, 0, none⟩) (by simp; omega)).trans c0
        have e1 := (BV.cell (p := ⟨w.heap.size, 1, none⟩) (by simp; omega)).trans c1
        have e2 := (BV.cell (p := ⟨w.heap.size, 2, none⟩) (by simp; omega)).trans c2
        have e3 := (BV.cell (p := ⟨w.heap.size, 3, none⟩) (by simp; omega)).trans c3
        have e4 := (BV.cell (p := ⟨w.heap.size, 4, none⟩) (by simp; omega)).trans c4
        have y1 := (BV.cell (p := ⟨db, do_ + q * 3 + 1, none⟩) hdw).trans d1
        have y2 := (BV.cell (p := ⟨db, do_ + q * 3 + 2, none⟩) hdw).trans d2
        have KS : Hid (∀ w', Below V.heap.size V w' → Below V.heap.size V w' ∧ ((w'.cell? ⟨w.heap.size, 0, none⟩ = some (.string g.name) ∧ w'.cell? ⟨w.heap.size, 1, none⟩ = some (.int .i64 g.err) ∧ w'.cell? ⟨w.heap.size, 2, none⟩ = some (.int .i64 g.rate) ∧ w'.cell? ⟨w.heap.size, 3, none⟩ = some (.slice (some ⟨db, do_, none⟩) g.ds.length p.dc) ∧ w'.cell? ⟨w.heap.size, 4, none⟩ = some (.slice (some ⟨b, o, none⟩) g.rs.length p.rc)) ∧ (w'.cell? ⟨wr.heap.size, 0, none⟩ = some (.int .i64 r.tick) ∧ w'.cell? ⟨wr.heap.size, 1, none⟩ = some (.int .i64 r.value)) ∧ (w'.cell? ⟨db, do_ + q * 3 + 1, none⟩ = some (.int .i64 d.lo) ∧ w'.cell? ⟨db, do_ + q * 3 + 2, none⟩ = some (.int .i64 d.hi)))) := hid fun w' h =>
          have e : ∀ b o, b < V.heap.size → w'.cell? ⟨b, o, none⟩ = V.cell? ⟨b, o, none⟩ := fun b o hb => h.cell (p := ⟨b, o, none⟩) hb
          ⟨h, ⟨(e _ _ (by omega)).trans e0, (e _ _ (by omega)).trans e1, (e _ _ (by omega)).trans e2, (e _ _ (by omega)).trans e3, (e _ _ (by omega)).trans e4⟩, ⟨(e _ _ (by omega)).trans x0, (e _ _ (by omega)).trans x1⟩, (e _ _ (by omega)).trans y1, (e _ _ (by omega)).trans y2⟩
        have HOk : Hid (∀ W, Below V.heap.size V W → GauOk W p g) := hid fun W hW => HH.out.later (hbl.trans ((BV.mono (by omega)).trans (hW.mono (by omega)))) (Nat.le_refl _)
        clear c0 c1 c2 c3 c4 d1 d2 e0 e1 e2 e3 e4 x0 x1 y1 y2 q0 q1
        go_region_held3 (fun w' => Below V.heap.size V w' ∧ ((w'.cell? ⟨w.heap.size, 0, none⟩ = some (.string g.name) ∧ w'.cell? ⟨w.heap.size, 1, none⟩ = some (.int .i64 g.err) ∧ w'.cell? ⟨w.heap.size, 2, none⟩ = some (.int .i64 g.rate) ∧ w'.cell? ⟨w.heap.size, 3, none⟩ = some (.slice (some ⟨db, do_, none⟩) g.ds.length p.dc) ∧ w'.cell? ⟨w.heap.size, 4, none⟩ = some (.slice (some ⟨b, o, none⟩) g.rs.length p.rc)) ∧ (w'.cell? ⟨wr.heap.size, 0, none⟩ = some (.int .i64 r.tick) ∧ w'.cell? ⟨wr.heap.size, 1, none⟩ = some (.int .i64 r.value)) ∧ (w'.cell? ⟨db, do_ + q * 3 + 1, none⟩ = some (.int .i64 d.lo) ∧ w'.cell? ⟨db, do_ + q * 3 + 2, none⟩ = some (.int .i64 d.hi))))
          (first | assumption | exact KS.out _ (Below.drew (Below.refl _ _)) | exact KS.out _ (keepG (by assumption) (by assumption) (Nat.le_refl _)) | exact KS.out _ (keepG ((Below.refl _ _).alloc (Nat.le_refl _) _) (by assumption) (Nat.le_refl _)) | exact KS.out _ (keepH (by assumption) (Nat.le_refl _) _) | exact KS.out _ (keepH2 (Nat.le_refl _) _) | exact KS.out _ (keepSet (keepSet' (by assumption) (Nat.le_refl _)) (Nat.le_refl _)))
          (first | (go_at_call 101; refine Calls.mono (rsayDatum HDq.out HDa.out HRa.out HOk.out _ (by first | exact (Below.refl _ _).drew | exact ((Below.refl _ _).drew).alloc (Nat.le_refl _) _)) ?_; rintro e wd ⟨rfl, hb⟩; obtain ⟨hbc, hbf⟩ := bcell hb))
        · skip
          have hb1 := hb.size
          simp only [World.size_drew] at hb1
          obtain ⟨B4, ⟨c0, c1, c2, c3, c4⟩, ⟨x0, x1⟩, _⟩ := (by assumption : Below V.heap.size V _ ∧ ((World.cell? _ ⟨w.heap.size, 0, none⟩ = some (.string g.name) ∧ _) ∧ _))
          have s0 : (wd.alloc (.cells #[.int .i64 d.lo, .int .i64 d.hi] 38)).cell? ⟨wd.heap.size, 0, none⟩ = some (.int .i64 d.lo) := by simp [go_sem]
          have s1 : (wd.alloc (.cells #[.int .i64 d.lo, .int .i64 d.hi] 38)).cell? ⟨wd.heap.size, 1, none⟩ = some (.int .i64 d.hi) := by simp [go_sem]
          have S4 : wd.heap.size < (wd.alloc (.cells #[.int .i64 d.lo, .int .i64 d.hi] 38)).heap.size := by simp
          generalize World.alloc wd _ = W4 at *
          have hs4 := B4.size
          have a0 := hid ((B4.cell (p := ⟨w.heap.size + 2, 0, none⟩) (by simp; omega)).trans ((BV.cell (p := ⟨w.heap.size + 2, 0, none⟩) (by simp; omega)).trans ha0.out))
          have a1 := hid ((B4.cell (p := ⟨w.heap.size + 2, 1, none⟩) (by simp; omega)).trans ((BV.cell (p := ⟨w.heap.size + 2, 1, none⟩) (by simp; omega)).trans ha1.out))
          have af : ∀ o, W4.frozen? ⟨w.heap.size + 2, o, none⟩ = false := fun o => (B4.frozen (p := ⟨w.heap.size + 2, o, none⟩) (by simp; omega)).trans ((BV.frozen (p := ⟨w.heap.size + 2, o, none⟩) (by simp; omega)).trans (haf.out o))
          have f0 := af 0
          have f1 := af 1
          have HAF := hid af
          have q0 := a0.out
          have q1 := a1.out
          have HBx := hid (hbw.trans ((BV.mono (by omega)).trans (B4.mono (by omega : w.heap.size + 2 ≤ V.heap.size))))
          generalize hs_ : sayFold g t (knF g now k) = s at *
          have ne1 : wr.heap.size ≠ w.heap.size + 2 := by omega
          have ne2 : wd.heap.size ≠ w.heap.size + 2 := by omega
          obtain ⟨he0, he1⟩ := HG.out.err
          obtain ⟨hr0, hr1⟩ := HG.out.rate
          have hA : ∃ av, awayOf t r = av ∧ 0 ≤ av ∧ av ≤ 200000 ∧ max (t - r.tick) (r.tick - t) = av := ⟨awayOf t r, rfl, by unfold awayOf; split <;> omega, by unfold awayOf; split <;> omega, by unfold awayOf; split <;> omega⟩
          obtain ⟨av, hav, av0, av1, hmx⟩ := hA
          have hm0 : 0 ≤ g.rate * av := Int.mul_nonneg hr0 av0
          have hm1 : g.rate * av ≤ 5000 * 200000 := Int.mul_le_mul hr1 av1 av0 (by omega)
          have hw : IntKind.i64.wrap (g.rate * av) = g.rate * av := IntWalk.i64_in _ (by omega)
          have HFin : Hid (sayFold g t (knF g now (k + 1)) = (max s.1 (r.value - g.err - d.hi - g.rate * av), min s.2 (r.value + g.err - d.lo + g.rate * av))) := hid (by rw [HKy.out, sayFold_add, hs_, HStep.out, hav])
          clear hav hs_ B4 BV hbw hbl HB B1
          go_wp2_with fail
          have hrs := row_set (lb := w.heap.size + 2) (i := 0) (.int .i64 (max s.1 (r.value - g.err - d.hi - g.rate * av))) (.int .i64 (min s.2 (r.value + g.err - d.lo + g.rate * av))) a0.out a1.out
          simp only [Nat.zero_mul, Nat.zero_add] at hrs
          refine ⟨⟨k + 1, by omega, by go_num, ⟨_, rfl, hid (by rw [HKy.out]; simp)⟩, hid ?_, hid ?_, hid ?_, (HBx.out.setCell (p := ⟨w.heap.size + 2, 0, none⟩) (Nat.le_refl _) _).setCell (p := ⟨w.heap.size + 2, 1, none⟩) (Nat.le_refl _) _, by simp [World.setCell]; omega⟩, by simp [intOf]; omega⟩
          · rw [HFin.out]; exact hrs.1
          · rw [HFin.out]; exact hrs.2.1
          · intro o
            simpa using HAF.out o
        · skip
          have hb1 := hb.size
          simp only [World.size_alloc, World.size_drew] at hb1
          obtain ⟨B4, ⟨c0, c1, c2, c3, c4⟩, ⟨x0, x1⟩, _⟩ := (by assumption : Below V.heap.size V _ ∧ ((World.cell? _ ⟨w.heap.size, 0, none⟩ = some (.string g.name) ∧ _) ∧ _))
          have i0 : wd.cell? ⟨V.heap.size, 0, none⟩ = some (.int .i64 0) := by simp [go_sem, *]
          have i1 : wd.cell? ⟨V.heap.size, 1, none⟩ = some (.int .i64 0) := by simp [go_sem, *]
          have hrs := row_set (w := wd) (lb := V.heap.size) (i := 0) (.int .i64 d.lo) (.int .i64 d.hi) i0 i1
          simp only [Nat.zero_mul, Nat.zero_add] at hrs
          have s0 := hrs.1
          have s1 := hrs.2.1
          have S4 : V.heap.size < ((wd.setCell ⟨V.heap.size, 0, none⟩ (.int .i64 d.lo)).setCell ⟨V.heap.size, 1, none⟩ (.int .i64 d.hi)).heap.size := by simp [World.setCell]; omega
          clear hrs i0 i1
          generalize World.setCell (World.setCell wd _ _) _ _ = W4 at *
          have hs4 := B4.size
          have a0 := hid ((B4.cell (p := ⟨w.heap.size + 2, 0, none⟩) (by simp; omega)).trans ((BV.cell (p := ⟨w.heap.size + 2, 0, none⟩) (by simp; omega)).trans ha0.out))
          have a1 := hid ((B4.cell (p := ⟨w.heap.size + 2, 1, none⟩) (by simp; omega)).trans ((BV.cell (p := ⟨w.heap.size + 2, 1, none⟩) (by simp; omega)).trans ha1.out))
          have af : ∀ o, W4.frozen? ⟨w.heap.size + 2, o, none⟩ = false := fun o => (B4.frozen (p := ⟨w.heap.size + 2, o, none⟩) (by simp; omega)).trans ((BV.frozen (p := ⟨w.heap.size + 2, o, none⟩) (by simp; omega)).trans (haf.out o))
          have f0 := af 0
          have f1 := af 1
          have HAF := hid af
          have q0 := a0.out
          have q1 := a1.out
          have HBx := hid (hbw.trans ((BV.mono (by omega)).trans (B4.mono (by omega : w.heap.size + 2 ≤ V.heap.size))))
          generalize hs_ : sayFold g t (knF g now k) = s at *
          have ne1 : wr.heap.size ≠ w.heap.size + 2 := by omega
          have ne2 : V.heap.size ≠ w.heap.size + 2 := by omega
          obtain ⟨he0, he1⟩ := HG.out.err
          obtain ⟨hr0, hr1⟩ := HG.out.rate
          have hA : ∃ av, awayOf t r = av ∧ 0 ≤ av ∧ av ≤ 200000 ∧ max (t - r.tick) (r.tick - t) = av := ⟨awayOf t r, rfl, by unfold awayOf; split <;> omega, by unfold awayOf; split <;> omega, by unfold awayOf; split <;> omega⟩
          obtain ⟨av, hav, av0, av1, hmx⟩ := hA
          have hm0 : 0 ≤ g.rate * av := Int.mul_nonneg hr0 av0
          have hm1 : g.rate * av ≤ 5000 * 200000 := Int.mul_le_mul hr1 av1 av0 (by omega)
          have hw : IntKind.i64.wrap (g.rate * av) = g.rate * av := IntWalk.i64_in _ (by omega)
          have HFin : Hid (sayFold g t (knF g now (k + 1)) = (max s.1 (r.value - g.err - d.hi - g.rate * av), min s.2 (r.value + g.err - d.lo + g.rate * av))) := hid (by rw [HKy.out, sayFold_add, hs_, HStep.out, hav])
          clear hav hs_ B4 BV hbw hbl HB B1
          go_wp2_with fail
          have hrs := row_set (lb := w.heap.size + 2) (i := 0) (.int .i64 (max s.1 (r.value - g.err - d.hi - g.rate * av))) (.int .i64 (min s.2 (r.value + g.err - d.lo + g.rate * av))) a0.out a1.out
          simp only [Nat.zero_mul, Nat.zero_add] at hrs
          refine ⟨⟨k + 1, by omega, by go_num, ⟨_, rfl, hid (by rw [HKy.out]; simp)⟩, hid ?_, hid ?_, hid ?_, (HBx.out.setCell (p := ⟨w.heap.size + 2, 0, none⟩) (Nat.le_refl _) _).setCell (p := ⟨w.heap.size + 2, 1, none⟩) (Nat.le_refl _) _, by simp [World.setCell]; omega⟩, by simp [intOf]; omega⟩
          · rw [HFin.out]; exact hrs.1
          · rw [HFin.out]; exact hrs.2.1
          · intro o
            simpa using HAF.out o
      · have HKn := hid (knF_no hlt hnow)
        have hnow' : now < g.rs[k].tick := by omega
        clear hnow HRb
        generalize g.rs[k] = r at *
        rw [hra] at c4
        have HRa := hid hra; clear hra
        go_wp2_with fail
        refine ⟨⟨k + 1, by omega, by go_num, ⟨_, rfl, hid (by rw [HKn.out]; exact hav.out)⟩, hid ?_, hid ?_, hid ?_, hbw.alloc (by omega) _, by simp; omega⟩, by simp [intOf]; omega⟩
        · rw [HKn.out]; exact (World.cell?_alloc_lt _ _ _ hsz).trans ha0.out
        · rw [HKn.out]; exact (World.cell?_alloc_lt _ _ _ hsz).trans ha1.out
        · intro o; exact (((Below.refl wr.heap.size wr).alloc (Nat.le_refl _) _).frozen (p := ⟨w.heap.size + 2, o, none⟩) hsz).trans (haf.out o)
    · obtain rfl : k = g.rs.length := by omega
      have HS := hid (sayP_knF HG.out t now)
      have Q0 := ha0.out
      have Q1 := ha1.out
      have r0 := (hbw.cell (p := ⟨w.heap.size + 1, 0, none⟩) (by simp)).trans R0.out
      have r1 := (hbw.cell (p := ⟨w.heap.size + 1, 1, none⟩) (by simp)).trans R1.out
      have z0 := (hbw.frozen (p := ⟨w.heap.size + 1, 0, none⟩) (by simp)).trans (Z0.out 0)
      have z1 := (hbw.frozen (p := ⟨w.heap.size + 1, 1, none⟩) (by simp)).trans (Z0.out 1)
      have HAv := hid hav.out
      clear ha0 ha1 hav
      by_cases hk0 : knF g now g.rs.length = []
      · have HV : Hid (sayP g t now = ((0, 0), 4)) := hid (by rw [HS.out, hk0]; rfl)
        obtain rfl : av0 = false := by rw [HAv.out]; simp [hk0]
        clear Q0 Q1 hk0
        go_wp2_with fail
        refine bodyPost_ret (v := .tuple #[.agg #[.int .i64 0, .int .i64 0], .int .i64 4]) (by simp [results, Tryz.results85, go_sem, *]) rfl ⟨by rw [HV.out], ?_⟩
        repeat (first | exact hbl | refine Below.alloc ?_ (by simp <;> omega) _ | refine Below.setCell ?_ (by simp) _)
      · obtain rfl : av0 = true := by rw [HAv.out]; simp [hk0]
        have HV := hid (show sayP g t now = if (sayFold g t (knF g now g.rs.length)).2 < (sayFold g t (knF g now g.rs.length)).1 then ((0, 0), 9) else (sayFold g t (knF g now g.rs.length), 0) by rw [HS.out]; unfold sayOf; rw [if_neg hk0])
        clear hk0 HS HAv
        generalize sayFold g t (knF g now g.rs.length) = s at *
        by_cases hd : s.2 < s.1
        · have HV2 : Hid (sayP g t now = ((0, 0), 9)) := hid (by rw [HV.out, if_pos hd])
          go_wp2_with fail
          refine bodyPost_ret (v := .tuple #[.agg #[.int .i64 0, .int .i64 0], .int .i64 9]) (by simp [results, Tryz.results85, go_sem, *]) rfl ⟨by rw [HV2.out], ?_⟩
          repeat (first | exact hbl | refine Below.alloc ?_ (by simp <;> omega) _ | refine Below.setCell ?_ (by simp) _)
        · have HV2 : Hid (sayP g t now = (s, 0)) := hid (by rw [HV.out, if_neg hd])
          go_wp2_with fail
          refine bodyPost_ret (v := .tuple #[.agg #[.int .i64 s.1, .int .i64 s.2], .int .i64 0]) (by simp [results, Tryz.results85, go_sem, *]) rfl ⟨by rw [HV2.out], ?_⟩
          repeat (first | exact hbl | refine Below.alloc ?_ (by simp <;> omega) _ | refine Below.setCell ?_ (by simp) _)
end Go.Proofs.YtblneiegekdnjaaGreat
