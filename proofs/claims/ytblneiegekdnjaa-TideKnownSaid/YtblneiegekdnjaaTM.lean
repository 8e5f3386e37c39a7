/- Tide, part M: what a gauge says, the function. -/
import Derived.Test.YtblneiegekdnjaaTL
import Derived.Test.YtblneiegekdnjaaTI
set_option linter.all false
namespace Go.Proofs.Ytblneiegekdnjaa
open Go.RowKit

def awayOf (t : Int) (r : Rdg) : Int := if r.tick ≤ t then t - r.tick else r.tick - t
/-- One reading more. -/
def sayStep (g : Gau) (t : Int) (s : Int × Int) (r : Rdg) : Int × Int :=
  (max s.1 (r.value - g.err - (datumOf g r.tick).hi - g.rate * awayOf t r), min s.2 (r.value + g.err - (datumOf g r.tick).lo + g.rate * awayOf t r))
def sayFold (g : Gau) (t : Int) (l : List Rdg) : Int × Int := l.foldl (sayStep g t) (-20000, 20000)
theorem sayFold_snoc (g : Gau) (t : Int) (k : Nat) (h : k < g.rs.length) : sayFold g t (g.rs.take (k + 1)) = sayStep g t (sayFold g t (g.rs.take k)) g.rs[k] := by
  unfold sayFold; rw [List.take_succ_eq_append_getElem h, List.foldl_append]; rfl
/-- What a gauge says, and the error: ErrNone, or ErrDown. -/
def sayOf (g : Gau) (t : Int) (l : List Rdg) : (Int × Int) × Int :=
  if l = [] then ((0, 0), 4) else if (sayFold g t l).2 < (sayFold g t l).1 then ((0, 0), 9) else (sayFold g t l, 0)
def sayP (g : Gau) (t now : Int) : (Int × Int) × Int := sayOf g t (g.rs.takeWhile fun r => decide (r.tick ≤ now))
theorem takeWhile_take {p : Rdg → Bool} {l : List Rdg} {k : Nat} (hk : k ≤ l.length) (h : ∀ i (h : i < l.length), i < k → p l[i] = true) (hn : ∀ h : k < l.length, p l[k] = false) : l.takeWhile p = l.take k := by
  induction l generalizing k with
  | nil => simp
  | cons a l ih =>
    cases k with
    | zero => have := hn (by simp); simp at this; simp [this]
    | succ k =>
      have h0 := h 0 (by simp) (by omega)
      simp at h0
      simp only [List.takeWhile_cons, h0, if_true, List.take_succ_cons, List.cons.injEq, true_and]
      refine ih (by simpa using hk) (fun i hi hik => ?_) (fun hk' => ?_)
      · have := h (i + 1) (by simpa using hi) (by omega); simpa using this
      · have := hn (by simpa using hk'); simpa using this

/-- The span of a datum. -/
theorem datum_bd {g : Gau} (h : GauGood g) (t : Int) : dIdx g.ds t g.ds.length < g.ds.length ∧ -5000 ≤ (datumOf g t).lo ∧ (datumOf g t).lo ≤ 5000 ∧ -5000 ≤ (datumOf g t).hi ∧ (datumOf g t).hi ≤ 5000 := by
  have hl := h.dlen
  have h1 : dIdx g.ds t g.ds.length < g.ds.length := by rcases dIdx_lt g.ds t g.ds.length with h | h <;> omega
  refine ⟨h1, ?_⟩
  have := h.dat _ h1
  have e : datumOf g t = g.ds[dIdx g.ds t g.ds.length] := by simp [datumOf, List.getD, h1]
  rw [e]; omega

/-- datumAt, in the words of the walk. -/
theorem sayDatum {g : Gau} {p : GPos} {t : Int} {q : Nat} {da ra : Option Addr} {V : World} (h : ∀ w : World, GauOk w p g → Calls Try.prog 87 #[.agg #[.string g.name, .int .i64 g.err, .int .i64 g.rate, .slice p.da g.ds.length p.dc, .slice p.ra g.rs.length p.rc], .int .i64 t] w fun e w' => e = .returned (.int .i64 q) ∧ Below w.heap.size w w')
    (hd : p.da = da) (hr : p.ra = ra) (hok : ∀ W, Below V.heap.size V W → GauOk W p g) (W : World) (hW : Below V.heap.size V W) :
    Calls Try.prog 87 #[.agg #[.string g.name, .int .i64 g.err, .int .i64 g.rate, .slice da g.ds.length p.dc, .slice ra g.rs.length p.rc], .int .i64 t] W fun e w' => e = .returned (.int .i64 q) ∧ Below W.heap.size W w' := by
  subst hd hr; exact h W (hok W hW)
theorem sayRead {g : Gau} {p : GPos} {da ra : Option Addr} {t v : Int} (hd : p.da = da) (hr : p.ra = ra) (w : World) (he : 0 ≤ g.err ∧ g.err ≤ 5000) (hv : -30000 ≤ v ∧ v ≤ 30000) :
    Calls Try.prog 88 #[.agg #[.string g.name, .int .i64 g.err, .int .i64 g.rate, .slice da g.ds.length p.dc, .slice ra g.rs.length p.rc], .agg #[.int .i64 t, .int .i64 v]] w fun e w' => e = .returned (.agg #[.int .i64 (v - g.err), .int .i64 (v + g.err)]) ∧ Below w.heap.size w w' := by
  subst hd hr; exact read_any g p t v w he hv
theorem keepSet' {B : Nat} {V W : World} {R : Prop} {p : Addr} {u : Value} (h : Below B V W ∧ R) (hp : B ≤ p.block) : Below B V (W.setCell p u) ∧ True := ⟨h.1.setCell hp u, trivial⟩

set_option maxRecDepth 100000 in
set_option maxHeartbeats 2000000 in
theorem says_any (g : Gau) (p : GPos) (t now : Int) (w : World) (hok : GauOk w p g) (hg : GauGood g) (ht : 0 ≤ t ∧ t ≤ 200000) :
    Calls Try.prog 72 #[.agg #[.string g.name, .int .i64 g.err, .int .i64 g.rate, .slice p.da g.ds.length p.dc, .slice p.ra g.rs.length p.rc], .int .i64 t, .int .i64 now] w
      fun e w' => e = .returned (.tuple #[.agg #[.int .i64 (sayP g t now).1.1, .int .i64 (sayP g t now).1.2], .int .i64 (sayP g t now).2]) ∧ Below w.heap.size w w' := by
  have hrl := hok.wf.rlen
  have hrc := hok.wf.rcap
  have HH := hid hok; clear hok
  have HG := hid hg; clear hg
  obtain ⟨ht0, ht1⟩ := ht
  go_enter Try.func72, Try.ntmps72
  go_wp2_with fail
  generalize hW1 : World.alloc (World.alloc w _) _ = W1
  have B1 : Below w.heap.size w W1 := by rw [← hW1]; repeat (first | exact Below.refl _ _ | refine Below.alloc ?_ (by simp <;> omega) _)
  have S1 : w.heap.size + 1 < W1.heap.size := by rw [← hW1]; simp
  have hbox : GauBox W1 w.heap.size g p := by rw [← hW1]; exact ⟨by simp [go_sem], by simp [go_sem], by simp [go_sem], by simp [go_sem], by simp [go_sem]⟩
  have r0 : W1.cell? ⟨w.heap.size + 1, 0, none⟩ = some (.int .i64 0) := by rw [← hW1]; simp [go_sem]
  have r1 : W1.cell? ⟨w.heap.size + 1, 1, none⟩ = some (.int .i64 0) := by rw [← hW1]; simp [go_sem]
  have z0 : W1.frozen? ⟨w.heap.size + 1, 0, none⟩ = false := by rw [← hW1]; simp [go_sem]
  have z1 : W1.frozen? ⟨w.heap.size + 1, 1, none⟩ = false := by rw [← hW1]; simp [go_sem]
  clear hW1
  refine (allLevels_any _).mono ?_
  rintro e W2 ⟨rfl, B2⟩
  have S2 := B2.size
  have HR0 := hid ((B2.cell (p := ⟨w.heap.size + 1, 0, none⟩) S1).trans r0)
  have HR1 := hid ((B2.cell (p := ⟨w.heap.size + 1, 1, none⟩) S1).trans r1)
  have HZ0 := hid ((B2.frozen (p := ⟨w.heap.size + 1, 0, none⟩) S1).trans z0)
  have HZ1 := hid ((B2.frozen (p := ⟨w.heap.size + 1, 1, none⟩) S1).trans z1)
  have hbox2 := hbox.later B2 (by omega)
  obtain ⟨c0, c1, c2, c3, c4⟩ := hbox2
  clear r0 r1 z0 z1 hbox
  have n1 : w.heap.size < W2.heap.size := by omega
  have n2 : w.heap.size ≠ W2.heap.size := by omega
  go_wp2_with fail
  generalize hW3 : World.alloc W2 _ = W3
  have B3 : Below W2.heap.size W2 W3 := by rw [← hW3]; exact (Below.refl _ _).alloc (Nat.le_refl _) _
  have S3 : W2.heap.size < W3.heap.size := by rw [← hW3]; simp
  have A0 := hid (show W3.cell? ⟨W2.heap.size, 0, none⟩ = some (.int .i64 (-20000)) by rw [← hW3]; simp [go_sem])
  have A1 := hid (show W3.cell? ⟨W2.heap.size, 1, none⟩ = some (.int .i64 20000) by rw [← hW3]; simp [go_sem])
  have AF := hid (show ∀ o, W3.frozen? ⟨W2.heap.size, o, none⟩ = false by intro o; rw [← hW3]; simp [go_sem])
  clear hW3
  have BW : Below w.heap.size w W2 := B1.trans (B2.mono (by omega))
  have hbox3 : GauBox W2 w.heap.size g p := ⟨c0, c1, c2, c3, c4⟩
  have HB := hid hbox3; clear hbox3 c0 c1 c2 c3 c4
  go_loopw [8, 11, 12, 13, 18] (fun kn _ _ _ i wr => ∃ k : Nat, k ≤ g.rs.length ∧ i = .int .i64 k ∧ kn = .bool (decide (0 < k)) ∧ Hid (∀ i (h : i < g.rs.length), i < k → g.rs[i].tick ≤ now) ∧
      Hid (wr.cell? ⟨W2.heap.size, 0, none⟩ = some (.int .i64 (sayFold g t (g.rs.take k)).1)) ∧ Hid (wr.cell? ⟨W2.heap.size, 1, none⟩ = some (.int .i64 (sayFold g t (g.rs.take k)).2)) ∧
      Hid (∀ o, wr.frozen? ⟨W2.heap.size, o, none⟩ = false) ∧ Below W2.heap.size W2 wr ∧ W2.heap.size < wr.heap.size) (fun _ _ _ _ i _ => g.rs.length - (intOf i).toNat)
  case atStart => exact ⟨0, Nat.zero_le _, rfl, rfl, hid (fun i _ h => absurd h (Nat.not_lt_zero _)), A0, A1, AF, B3, S3⟩
  case round =>
    obtain ⟨k, hk, rfl, rfl, hkn, ha0, ha1, haf, hbw, hsz⟩ := hrel
    obtain ⟨c0, c1, c2, c3, c4⟩ := HB.out.later hbw n1
    have hbl : Below w.heap.size w wr := BW.trans (hbw.mono (by omega))
    by_cases hlt : k < g.rs.length
    · rcases HH.out.rs with h0 | ⟨b, o, hra, hs, hc⟩
      · rw [h0] at hlt; simp at hlt
      obtain ⟨q0, q1⟩ := RdgAt.later hbl _ _ _ hs (hc k hlt)
      have HSn := hid (sayFold_snoc g t k hlt)
      have HRb := hid (HG.out.rdg k hlt)
      have hbr : b < wr.heap.size := by omega
      have hbn : b ≠ wr.heap.size := by omega
      clear hc
      rw [hra]
      by_cases hnow : g.rs[k].tick ≤ now
      · have hnow' : ¬ now < g.rs[k].tick := by omega
        have HNK : Hid (∀ i (h : i < g.rs.length), i = k → g.rs[i].tick ≤ now) := hid (fun i h e => by subst e; exact hnow)
        clear hnow
        generalize hgk : g.rs[k] = r at *
        obtain ⟨rb1, rb2⟩ := HRb.out
        have hdb := datum_bd HG.out r.tick
        have hdq := datumAt_any g p r.tick
        rcases HH.out.ds with h0 | ⟨db, do_, hda, hds, hdc⟩
        · have := HG.out.dlen; rw [h0] at this; simp at this
        have hd := DatAt.later hbl _ _ _ hds (hdc _ hdb.1)
        have hde : datumOf g r.tick = g.ds[dIdx g.ds r.tick g.ds.length]'hdb.1 := by simp [datumOf, List.getD, hdb.1]
        rw [← hde] at hd
        have HStep := hid (show sayStep g t (sayFold g t (g.rs.take k)) r = (max (sayFold g t (g.rs.take k)).1 (r.value - g.err - (datumOf g r.tick).hi - g.rate * awayOf t r), min (sayFold g t (g.rs.take k)).2 (r.value + g.err - (datumOf g r.tick).lo + g.rate * awayOf t r)) from rfl)
        have HDq := hid hdq; clear hdq hde hdc
        generalize datumOf g r.tick = d at *
        generalize hq : dIdx g.ds r.tick g.ds.length = q at *
        have HQ := hid hq; clear hq
        obtain ⟨hq1, hq2, hq3, hq4, hq5⟩ := hdb
        have hq1' : (q : Int) < (g.ds.length : Int) := by omega
        obtain ⟨_, d1, d2⟩ := hd
        rw [hda] at c3
        rw [hra] at c4
        rw [hda]
        go_wp2_with fail
        generalize hV : World.alloc wr _ = V
        have BV : Below wr.heap.size wr V := by rw [← hV]; exact (Below.refl _ _).alloc (Nat.le_refl _) _
        have SV : wr.heap.size < V.heap.size := by rw [← hV]; simp
        have x0 : V.cell? ⟨wr.heap.size, 0, none⟩ = some (.int .i64 r.tick) := by rw [← hV]; simp [go_sem]
        have x1 : V.cell? ⟨wr.heap.size, 1, none⟩ = some (.int .i64 r.value) := by rw [← hV]; simp [go_sem]
        clear hV
        have hdw : db < wr.heap.size := by omega
        have e0 := (BV.cell (p := ⟨w.heap.size, 0, none⟩) (by simp; omega)).trans c0
        have e1 := (BV.cell (p := ⟨w.heap.size, 1, none⟩) (by simp; omega)).trans c1
        have e2 := (BV.cell (p := ⟨w.heap.size, 2, none⟩) (by simp; omega)).trans c2
        have e3 := (BV.cell (p := ⟨w.heap.size, 3, none⟩) (by simp; omega)).trans c3
        have e4 := (BV.cell (p := ⟨w.heap.size, 4, none⟩) (by simp; omega)).trans c4
        have y1 := (BV.cell (p := ⟨db, do_ + q * 3 + 1, none⟩) hdw).trans d1
        have y2 := (BV.cell (p := ⟨db, do_ + q * 3 + 2, none⟩) hdw).trans d2
        have KS : Hid (∀ w', Below V.heap.size V w' → Below V.heap.size V w' ∧ ((w'.cell? ⟨w.heap.size, 0, none⟩ = some (.string g.name) ∧ w'.cell? ⟨w.heap.size, 1, none⟩ = some (.int .i64 g.err) ∧ w'.cell? ⟨w.heap.size, 2, none⟩ = some (.int .i64 g.rate) ∧ w'.cell? ⟨w.heap.size, 3, none⟩ = some (.slice (some ⟨db, do_, none⟩) g.ds.length p.dc) ∧ w'.cell? ⟨w.heap.size, 4, none⟩ = some (.slice (some ⟨b, o, none⟩) g.rs.length p.rc)) ∧ (w'.cell? ⟨wr.heap.size, 0, none⟩ = some (.int .i64 r.tick) ∧ w'.cell? ⟨wr.heap.size, 1, none⟩ = some (.int .i64 r.value)) ∧ (w'.cell? ⟨db, do_ + q * 3 + 1, none⟩ = some (.int .i64 d.lo) ∧ w'.cell? ⟨db, do_ + q * 3 + 2, none⟩ = some (.int .i64 d.hi)))) := hid fun w' h =>
          have e : ∀ b o, b < V.heap.size → w'.cell? ⟨b, o, none⟩ = V.cell? ⟨b, o, none⟩ := fun b o hb => h.cell (p := ⟨b, o, none⟩) hb
          ⟨h, ⟨(e _ _ (by omega)).trans e0, (e _ _ (by omega)).trans e1, (e _ _ (by omega)).trans e2, (e _ _ (by omega)).trans e3, (e _ _ (by omega)).trans e4⟩, ⟨(e _ _ (by omega)).trans x0, (e _ _ (by omega)).trans x1⟩, (e _ _ (by omega)).trans y1, (e _ _ (by omega)).trans y2⟩
        have HOk : Hid (∀ W, Below V.heap.size V W → GauOk W p g) := hid fun W hW => HH.out.later (hbl.trans ((BV.mono (by omega)).trans (hW.mono (by omega)))) (Nat.le_refl _)
        clear c0 c1 c2 c3 c4 d1 d2 e0 e1 e2 e3 e4 x0 x1 y1 y2 q0 q1
        go_region_held3 (fun w' => Below V.heap.size V w' ∧ ((w'.cell? ⟨w.heap.size, 0, none⟩ = some (.string g.name) ∧ w'.cell? ⟨w.heap.size, 1, none⟩ = some (.int .i64 g.err) ∧ w'.cell? ⟨w.heap.size, 2, none⟩ = some (.int .i64 g.rate) ∧ w'.cell? ⟨w.heap.size, 3, none⟩ = some (.slice (some ⟨db, do_, none⟩) g.ds.length p.dc) ∧ w'.cell? ⟨w.heap.size, 4, none⟩ = some (.slice (some ⟨b, o, none⟩) g.rs.length p.rc)) ∧ (w'.cell? ⟨wr.heap.size, 0, none⟩ = some (.int .i64 r.tick) ∧ w'.cell? ⟨wr.heap.size, 1, none⟩ = some (.int .i64 r.value)) ∧ (w'.cell? ⟨db, do_ + q * 3 + 1, none⟩ = some (.int .i64 d.lo) ∧ w'.cell? ⟨db, do_ + q * 3 + 2, none⟩ = some (.int .i64 d.hi))))
          (first | assumption | exact KS.out _ (Below.drew (Below.refl _ _)) | exact KS.out _ (keepG (by assumption) (by assumption) (Nat.le_refl _)) | exact KS.out _ (keepG ((Below.refl _ _).alloc (Nat.le_refl _) _) (by assumption) (Nat.le_refl _)) | exact KS.out _ (keepH (by assumption) (Nat.le_refl _) _) | exact KS.out _ (keepH2 (Nat.le_refl _) _) | exact KS.out _ (keepSet (keepSet' (by assumption) (Nat.le_refl _)) (Nat.le_refl _)))
          (first | (go_at_call 87; refine Calls.mono (sayDatum HDq.out hda hra HOk.out _ (by first | exact (Below.refl _ _).drew | exact ((Below.refl _ _).drew).alloc (Nat.le_refl _) _)) ?_; rintro e wd ⟨rfl, hb⟩; obtain ⟨hbc, hbf⟩ := bcell hb))
        · skip
          have hb1 := hb.size
          simp only [World.size_drew] at hb1
          obtain ⟨B4, ⟨c0, c1, c2, c3, c4⟩, ⟨x0, x1⟩, _⟩ := (by assumption : Below V.heap.size V _ ∧ ((World.cell? _ ⟨w.heap.size, 0, none⟩ = some (.string g.name) ∧ _) ∧ _))
          have s0 : (wd.alloc (.cells #[.int .i64 d.lo, .int .i64 d.hi] 116)).cell? ⟨wd.heap.size, 0, none⟩ = some (.int .i64 d.lo) := by simp [go_sem]
          have s1 : (wd.alloc (.cells #[.int .i64 d.lo, .int .i64 d.hi] 116)).cell? ⟨wd.heap.size, 1, none⟩ = some (.int .i64 d.hi) := by simp [go_sem]
          have S4 : wd.heap.size < (wd.alloc (.cells #[.int .i64 d.lo, .int .i64 d.hi] 116)).heap.size := by simp
          generalize World.alloc wd _ = W4 at *
          generalize sayFold g t (g.rs.take k) = s at *
          have g0 : ∀ X : Later W4.heap.size W4, X.wd.cell? ⟨w.heap.size, 0, none⟩ = some (.string g.name) := fun X => (X.below.cell (p := ⟨w.heap.size, 0, none⟩) (by simp; omega)).trans c0
          have g1 : ∀ X : Later W4.heap.size W4, X.wd.cell? ⟨w.heap.size, 1, none⟩ = some (.int .i64 g.err) := fun X => (X.below.cell (p := ⟨w.heap.size, 1, none⟩) (by simp; omega)).trans c1
          have g2 : ∀ X : Later W4.heap.size W4, X.wd.cell? ⟨w.heap.size, 2, none⟩ = some (.int .i64 g.rate) := fun X => (X.below.cell (p := ⟨w.heap.size, 2, none⟩) (by simp; omega)).trans c2
          have g3 : ∀ X : Later W4.heap.size W4, X.wd.cell? ⟨w.heap.size, 3, none⟩ = some (.slice (some ⟨db, do_, none⟩) g.ds.length p.dc) := fun X => (X.below.cell (p := ⟨w.heap.size, 3, none⟩) (by simp; omega)).trans c3
          have g4 : ∀ X : Later W4.heap.size W4, X.wd.cell? ⟨w.heap.size, 4, none⟩ = some (.slice (some ⟨b, o, none⟩) g.rs.length p.rc) := fun X => (X.below.cell (p := ⟨w.heap.size, 4, none⟩) (by simp; omega)).trans c4
          have g5 : ∀ X : Later W4.heap.size W4, X.wd.cell? ⟨wr.heap.size, 0, none⟩ = some (.int .i64 r.tick) := fun X => (X.below.cell (p := ⟨wr.heap.size, 0, none⟩) (by simp; omega)).trans x0
          have g6 : ∀ X : Later W4.heap.size W4, X.wd.cell? ⟨wr.heap.size, 1, none⟩ = some (.int .i64 r.value) := fun X => (X.below.cell (p := ⟨wr.heap.size, 1, none⟩) (by simp; omega)).trans x1
          have g7 : ∀ X : Later W4.heap.size W4, X.wd.cell? ⟨wd.heap.size, 0, none⟩ = some (.int .i64 d.lo) := fun X => (X.below.cell (p := ⟨wd.heap.size, 0, none⟩) (by simp; omega)).trans s0
          have g8 : ∀ X : Later W4.heap.size W4, X.wd.cell? ⟨wd.heap.size, 1, none⟩ = some (.int .i64 d.hi) := fun X => (X.below.cell (p := ⟨wd.heap.size, 1, none⟩) (by simp; omega)).trans s1
          have g9 : ∀ X : Later W4.heap.size W4, X.wd.cell? ⟨W2.heap.size, 0, none⟩ = some (.int .i64 s.1) := fun X => (X.below.cell (p := ⟨W2.heap.size, 0, none⟩) (by simp; omega)).trans ((B4.cell (p := ⟨W2.heap.size, 0, none⟩) (by simp; omega)).trans ((BV.cell (p := ⟨W2.heap.size, 0, none⟩) (by simp; omega)).trans ha0.out))
          have g10 : ∀ X : Later W4.heap.size W4, X.wd.cell? ⟨W2.heap.size, 1, none⟩ = some (.int .i64 s.2) := fun X => (X.below.cell (p := ⟨W2.heap.size, 1, none⟩) (by simp; omega)).trans ((B4.cell (p := ⟨W2.heap.size, 1, none⟩) (by simp; omega)).trans ((BV.cell (p := ⟨W2.heap.size, 1, none⟩) (by simp; omega)).trans ha1.out))
          have G11 : Hid (∀ X : Later W4.heap.size W4, ∀ o, X.wd.frozen? ⟨W2.heap.size, o, none⟩ = false) := hid fun X o => (X.below.frozen (p := ⟨W2.heap.size, o, none⟩) (by simp; omega)).trans ((B4.frozen (p := ⟨W2.heap.size, o, none⟩) (by simp; omega)).trans ((BV.frozen (p := ⟨W2.heap.size, o, none⟩) (by simp; omega)).trans (haf.out o)))
          clear c0 c1 c2 c3 c4 x0 x1 s0 s1
          obtain ⟨he0, he1⟩ := HG.out.err
          obtain ⟨hr0, hr1⟩ := HG.out.rate
          have hH : ∀ x, -2000000000 ≤ x ∧ x ≤ 2000000000 → Half x := fun x h => ⟨by omega, by omega⟩
          by_cases hle : r.tick ≤ t
          all_goals
            have hA : ∃ av, awayOf t r = av ∧ 0 ≤ av ∧ av ≤ 200000 ∧ (if r.tick ≤ t then t - r.tick else r.tick - t) = av := ⟨awayOf t r, rfl, by unfold awayOf; split <;> omega, by unfold awayOf; split <;> omega, rfl⟩
            obtain ⟨av, hav, av0, av1, have_⟩ := hA
            first | rw [if_pos hle] at have_ | rw [if_neg hle] at have_
            have hm0 : 0 ≤ g.rate * av := Int.mul_nonneg hr0 av0
            have hm1 : g.rate * av ≤ 5000 * 200000 := Int.mul_le_mul hr1 av1 av0 (by omega)
            have hw : IntKind.i64.wrap (g.rate * av) = g.rate * av := IntWalk.i64_in _ (by omega)
            have HAv := hid hav; clear hav
            go_wp2_with fail
            first | rw [have_] | skip
            refine wp_region_grow_tail W4.heap.size 12 (by kernel_rfl) (by kernel_rfl) ?_
            simp only [List.take_succ_cons, List.take_zero, List.drop_succ_cons, List.drop_zero]
            repeat (go_big_quiet_step ((first | (go_at_call 88; exact later_grow (Nat.le_refl _) (sayRead (p := p) hda hra _ (And.intro he0 he1) (And.intro rb2.1 rb2.2))) | (go_at_call 89; exact later_grow (Nat.le_refl _) (less_any _ _ _ _ _ (hH _ (by omega)) (hH _ (by omega)) (hH _ (by omega)) (hH _ (by omega)))) | (go_at_call 103; exact later_grow (Nat.le_refl _) (wider_any _ _ _ _ (hH _ (by omega)) (hH _ (by omega)) (hH _ (by omega)))) | (go_at_call 82; exact later_grow (Nat.le_refl _) (common_any _ _ _ _ _)))))
            refine wpQuiet_nil ?_
            rintro wx ⟨⟨_, hbx⟩, rfl⟩
            have q0 : wx.cell? ⟨W2.heap.size, 0, none⟩ = some (.int .i64 s.1) := g9 ⟨wx, hbx⟩
            have q1 : wx.cell? ⟨W2.heap.size, 1, none⟩ = some (.int .i64 s.2) := g10 ⟨wx, hbx⟩
            have f0 := G11.out ⟨wx, hbx⟩ 0
            have f1 := G11.out ⟨wx, hbx⟩ 1
            simp only at f0 f1
            have hbs := hbx.size
            have hb4 := B4.size
            have Q0 := hid q0
            have Q1 := hid q1
            have HFr := hid (G11.out ⟨wx, hbx⟩)
            clear g0 g1 g2 g3 g4 g5 g6 g7 g8 g9 g10 G11
            have HFin : Hid (sayFold g t (g.rs.take (k + 1)) = (max s.1 (r.value - g.err - d.hi - g.rate * av), min s.2 (r.value + g.err - d.lo + g.rate * av))) := hid (by rw [HSn.out, HStep.out, HAv.out])
            have HBx := hid (hbw.trans ((BV.mono (by omega)).trans ((B4.mono (by omega)).trans (hbx.mono (by omega : W2.heap.size ≤ W4.heap.size)))))
            go_wp2_with fail
            have hrs := row_set (lb := W2.heap.size) (i := 0) (.int .i64 (max s.1 (r.value - g.err - d.hi - g.rate * av))) (.int .i64 (min s.2 (r.value + g.err - d.lo + g.rate * av))) Q0.out Q1.out
            simp only [Nat.zero_mul, Nat.zero_add] at hrs
            refine ⟨⟨k + 1, by omega, by go_num, by simp, hid ?_, hid ?_, hid ?_, hid ?_, (HBx.out.setCell (p := ⟨W2.heap.size, 0, none⟩) (Nat.le_refl _) _).setCell (p := ⟨W2.heap.size, 1, none⟩) (Nat.le_refl _) _, by simp [World.setCell]; omega⟩, by simp [intOf]; omega⟩
            · intro i hi hik
              by_cases h : i < k
              · exact hkn.out i hi h
              · exact HNK.out i hi (by omega)
            · rw [HFin.out]; exact hrs.1
            · rw [HFin.out]; exact hrs.2.1
            · intro o
              simpa using HFr.out o
        · skip
          have hb1 := hb.size
          simp only [World.size_alloc, World.size_drew] at hb1
          obtain ⟨B4, ⟨c0, c1, c2, c3, c4⟩, ⟨x0, x1⟩, _⟩ := (by assumption : Below V.heap.size V _ ∧ ((World.cell? _ ⟨w.heap.size, 0, none⟩ = some (.string g.name) ∧ _) ∧ _))
          have i0 : wd.cell? ⟨V.heap.size, 0, none⟩ = some (.int .i64 0) := by simp [go_sem, *]
          have i1 : wd.cell? ⟨V.heap.size, 1, none⟩ = some (.int .i64 0) := by simp [go_sem, *]
          have hrs := row_set (w := wd) (lb := V.heap.size) (i := 0) (.int .i64 d.lo) (.int .i64 d.hi) i0 i1
          simp only [Nat.zero_mul, Nat.zero_add] at hrs
          have s0 := hrs.1
          have s1 := hrs.2.1
          have S4 : V.heap.size < ((wd.setCell ⟨V.heap.size, 0, none⟩ (.int .i64 d.lo)).setCell ⟨V.heap.size, 1, none⟩ (.int .i64 d.hi)).heap.size := by simp [World.setCell]; omega
          clear hrs i0 i1
          generalize World.setCell (World.setCell wd _ _) _ _ = W4 at *
          generalize sayFold g t (g.rs.take k) = s at *
          have g0 : ∀ X : Later W4.heap.size W4, X.wd.cell? ⟨w.heap.size, 0, none⟩ = some (.string g.name) := fun X => (X.below.cell (p := ⟨w.heap.size, 0, none⟩) (by simp; omega)).trans c0
          have g1 : ∀ X : Later W4.heap.size W4, X.wd.cell? ⟨w.heap.size, 1, none⟩ = some (.int .i64 g.err) := fun X => (X.below.cell (p := ⟨w.heap.size, 1, none⟩) (by simp; omega)).trans c1
          have g2 : ∀ X : Later W4.heap.size W4, X.wd.cell? ⟨w.heap.size, 2, none⟩ = some (.int .i64 g.rate) := fun X => (X.below.cell (p := ⟨w.heap.size, 2, none⟩) (by simp; omega)).trans c2
          have g3 : ∀ X : Later W4.heap.size W4, X.wd.cell? ⟨w.heap.size, 3, none⟩ = some (.slice (some ⟨db, do_, none⟩) g.ds.length p.dc) := fun X => (X.below.cell (p := ⟨w.heap.size, 3, none⟩) (by simp; omega)).trans c3
          have g4 : ∀ X : Later W4.heap.size W4, X.wd.cell? ⟨w.heap.size, 4, none⟩ = some (.slice (some ⟨b, o, none⟩) g.rs.length p.rc) := fun X => (X.below.cell (p := ⟨w.heap.size, 4, none⟩) (by simp; omega)).trans c4
          have g5 : ∀ X : Later W4.heap.size W4, X.wd.cell? ⟨wr.heap.size, 0, none⟩ = some (.int .i64 r.tick) := fun X => (X.below.cell (p := ⟨wr.heap.size, 0, none⟩) (by simp; omega)).trans x0
          have g6 : ∀ X : Later W4.heap.size W4, X.wd.cell? ⟨wr.heap.size, 1, none⟩ = some (.int .i64 r.value) := fun X => (X.below.cell (p := ⟨wr.heap.size, 1, none⟩) (by simp; omega)).trans x1
          have g7 : ∀ X : Later W4.heap.size W4, X.wd.cell? ⟨V.heap.size, 0, none⟩ = some (.int .i64 d.lo) := fun X => (X.below.cell (p := ⟨V.heap.size, 0, none⟩) (by simp; omega)).trans s0
          have g8 : ∀ X : Later W4.heap.size W4, X.wd.cell? ⟨V.heap.size, 1, none⟩ = some (.int .i64 d.hi) := fun X => (X.below.cell (p := ⟨V.heap.size, 1, none⟩) (by simp; omega)).trans s1
          have g9 : ∀ X : Later W4.heap.size W4, X.wd.cell? ⟨W2.heap.size, 0, none⟩ = some (.int .i64 s.1) := fun X => (X.below.cell (p := ⟨W2.heap.size, 0, none⟩) (by simp; omega)).trans ((B4.cell (p := ⟨W2.heap.size, 0, none⟩) (by simp; omega)).trans ((BV.cell (p := ⟨W2.heap.size, 0, none⟩) (by simp; omega)).trans ha0.out))
          have g10 : ∀ X : Later W4.heap.size W4, X.wd.cell? ⟨W2.heap.size, 1, none⟩ = some (.int .i64 s.2) := fun X => (X.below.cell (p := ⟨W2.heap.size, 1, none⟩) (by simp; omega)).trans ((B4.cell (p := ⟨W2.heap.size, 1, none⟩) (by simp; omega)).trans ((BV.cell (p := ⟨W2.heap.size, 1, none⟩) (by simp; omega)).trans ha1.out))
          have G11 : Hid (∀ X : Later W4.heap.size W4, ∀ o, X.wd.frozen? ⟨W2.heap.size, o, none⟩ = false) := hid fun X o => (X.below.frozen (p := ⟨W2.heap.size, o, none⟩) (by simp; omega)).trans ((B4.frozen (p := ⟨W2.heap.size, o, none⟩) (by simp; omega)).trans ((BV.frozen (p := ⟨W2.heap.size, o, none⟩) (by simp; omega)).trans (haf.out o)))
          clear c0 c1 c2 c3 c4 x0 x1 s0 s1
          obtain ⟨he0, he1⟩ := HG.out.err
          obtain ⟨hr0, hr1⟩ := HG.out.rate
          have hH : ∀ x, -2000000000 ≤ x ∧ x ≤ 2000000000 → Half x := fun x h => ⟨by omega, by omega⟩
          by_cases hle : r.tick ≤ t
          all_goals
            have hA : ∃ av, awayOf t r = av ∧ 0 ≤ av ∧ av ≤ 200000 ∧ (if r.tick ≤ t then t - r.tick else r.tick - t) = av := ⟨awayOf t r, rfl, by unfold awayOf; split <;> omega, by unfold awayOf; split <;> omega, rfl⟩
            obtain ⟨av, hav, av0, av1, have_⟩ := hA
            first | rw [if_pos hle] at have_ | rw [if_neg hle] at have_
            have hm0 : 0 ≤ g.rate * av := Int.mul_nonneg hr0 av0
            have hm1 : g.rate * av ≤ 5000 * 200000 := Int.mul_le_mul hr1 av1 av0 (by omega)
            have hw : IntKind.i64.wrap (g.rate * av) = g.rate * av := IntWalk.i64_in _ (by omega)
            have HAv := hid hav; clear hav
            go_wp2_with fail
            first | rw [have_] | skip
            refine wp_region_grow_tail W4.heap.size 12 (by kernel_rfl) (by kernel_rfl) ?_
            simp only [List.take_succ_cons, List.take_zero, List.drop_succ_cons, List.drop_zero]
            repeat (go_big_quiet_step ((first | (go_at_call 88; exact later_grow (Nat.le_refl _) (sayRead (p := p) hda hra _ (And.intro he0 he1) (And.intro rb2.1 rb2.2))) | (go_at_call 89; exact later_grow (Nat.le_refl _) (less_any _ _ _ _ _ (hH _ (by omega)) (hH _ (by omega)) (hH _ (by omega)) (hH _ (by omega)))) | (go_at_call 103; exact later_grow (Nat.le_refl _) (wider_any _ _ _ _ (hH _ (by omega)) (hH _ (by omega)) (hH _ (by omega)))) | (go_at_call 82; exact later_grow (Nat.le_refl _) (common_any _ _ _ _ _)))))
            refine wpQuiet_nil ?_
            rintro wx ⟨⟨_, hbx⟩, rfl⟩
            have q0 : wx.cell? ⟨W2.heap.size, 0, none⟩ = some (.int .i64 s.1) := g9 ⟨wx, hbx⟩
            have q1 : wx.cell? ⟨W2.heap.size, 1, none⟩ = some (.int .i64 s.2) := g10 ⟨wx, hbx⟩
            have f0 := G11.out ⟨wx, hbx⟩ 0
            have f1 := G11.out ⟨wx, hbx⟩ 1
            simp only at f0 f1
            have hbs := hbx.size
            have hb4 := B4.size
            have Q0 := hid q0
            have Q1 := hid q1
            have HFr := hid (G11.out ⟨wx, hbx⟩)
            clear g0 g1 g2 g3 g4 g5 g6 g7 g8 g9 g10 G11
            have HFin : Hid (sayFold g t (g.rs.take (k + 1)) = (max s.1 (r.value - g.err - d.hi - g.rate * av), min s.2 (r.value + g.err - d.lo + g.rate * av))) := hid (by rw [HSn.out, HStep.out, HAv.out])
            have HBx := hid (hbw.trans ((BV.mono (by omega)).trans ((B4.mono (by omega)).trans (hbx.mono (by omega : W2.heap.size ≤ W4.heap.size)))))
            go_wp2_with fail
            have hrs := row_set (lb := W2.heap.size) (i := 0) (.int .i64 (max s.1 (r.value - g.err - d.hi - g.rate * av))) (.int .i64 (min s.2 (r.value + g.err - d.lo + g.rate * av))) Q0.out Q1.out
            simp only [Nat.zero_mul, Nat.zero_add] at hrs
            refine ⟨⟨k + 1, by omega, by go_num, by simp, hid ?_, hid ?_, hid ?_, hid ?_, (HBx.out.setCell (p := ⟨W2.heap.size, 0, none⟩) (Nat.le_refl _) _).setCell (p := ⟨W2.heap.size, 1, none⟩) (Nat.le_refl _) _, by simp [World.setCell]; omega⟩, by simp [intOf]; omega⟩
            · intro i hi hik
              by_cases h : i < k
              · exact hkn.out i hi h
              · exact HNK.out i hi (by omega)
            · rw [HFin.out]; exact hrs.1
            · rw [HFin.out]; exact hrs.2.1
            · intro o
              simpa using HFr.out o
      · have hnow' : now < g.rs[k].tick := by omega
        have HTk : Hid ((g.rs.takeWhile fun r => decide (r.tick ≤ now)) = g.rs.take k) := hid (takeWhile_take hk (fun i hi hik => by have := hkn.out i hi hik; simpa using this) (fun _ => by simpa using hnow'))
        clear HSn HRb hnow
        generalize g.rs[k] = r at *
        rw [hra] at c4
        have HS := hid (show sayP g t now = sayOf g t (g.rs.take k) by unfold sayP; rw [HTk.out])
        have n3 : w.heap.size + 1 ≠ wr.heap.size := by omega
        have n4 : w.heap.size + 1 < wr.heap.size := by omega
        have n5 : W2.heap.size ≠ wr.heap.size := by omega
        have Q0 := ha0.out
        have Q1 := ha1.out
        have r0 := (hbw.cell (p := ⟨w.heap.size + 1, 0, none⟩) (by simp; omega)).trans HR0.out
        have r1 := (hbw.cell (p := ⟨w.heap.size + 1, 1, none⟩) (by simp; omega)).trans HR1.out
        have z0 := (hbw.frozen (p := ⟨w.heap.size + 1, 0, none⟩) (by simp; omega)).trans HZ0.out
        have z1 := (hbw.frozen (p := ⟨w.heap.size + 1, 1, none⟩) (by simp; omega)).trans HZ1.out
        by_cases hk0 : k = 0
        · have HV : Hid (sayP g t now = ((0, 0), 4)) := hid (by rw [HS.out, hk0]; rfl)
          have hkd : decide (0 < k) = false := by rw [hk0]; rfl
          rw [hkd]
          clear Q0 Q1 hkd hk0
          go_wp2_with fail
          refine bodyPost_ret (v := .tuple #[.agg #[.int .i64 0, .int .i64 0], .int .i64 4]) (by simp [results, Try.results72, go_sem, *]) rfl ⟨by rw [HV.out], ?_⟩
          repeat (first | exact hbl | refine Below.alloc ?_ (by simp <;> omega) _ | refine Below.setCell ?_ (by simp) _)
        · have hkd : decide (0 < k) = true := by simp; omega
          rw [hkd]
          have hne : g.rs.take k ≠ [] := by
            intro e
            have := congrArg List.length e
            simp at this
            rcases this with h | h
            · exact hk0 h
            · rw [h] at hk; simp at hk; exact hk0 hk
          have HV := hid (show sayP g t now = if (sayFold g t (g.rs.take k)).2 < (sayFold g t (g.rs.take k)).1 then ((0, 0), 9) else (sayFold g t (g.rs.take k), 0) by rw [HS.out]; unfold sayOf; rw [if_neg hne])
          clear hkd hk0 hne HS HTk
          generalize sayFold g t (g.rs.take k) = s at *
          have HQ0 := hid Q0
          have HQ1 := hid Q1
          by_cases hlt2 : s.2 < s.1
          · have HV2 := hid (show sayP g t now = ((0, 0), 9) by rw [HV.out, if_pos hlt2])
            go_wp2_with fail
            refine (empty_any _ _ _).mono ?_
            rintro e wf ⟨rfl, hbf0⟩
            have hbf : Below wr.heap.size wr wf := by first | exact hbf0 | exact ((Below.refl _ _).alloc (Nat.le_refl _) _).trans (hbf0.mono (by simp))
            have t0 := (hbf.cell (p := ⟨w.heap.size + 1, 0, none⟩) (by simp; omega)).trans r0
            have t1 := (hbf.cell (p := ⟨w.heap.size + 1, 1, none⟩) (by simp; omega)).trans r1
            have u0 := (hbf.frozen (p := ⟨w.heap.size + 1, 0, none⟩) (by simp; omega)).trans z0
            have u1 := (hbf.frozen (p := ⟨w.heap.size + 1, 1, none⟩) (by simp; omega)).trans z1
            go_wp2_with fail
            refine bodyPost_ret (v := .tuple #[.agg #[.int .i64 0, .int .i64 0], .int .i64 9]) (by simp [results, Try.results72, go_sem, *]) rfl ⟨by rw [HV2.out], ?_⟩
            repeat (first | exact hbl.trans (hbf.mono (by omega)) | refine Below.alloc ?_ (by simp <;> omega) _ | refine Below.setCell ?_ (by simp) _)
          · have HV2 := hid (show sayP g t now = (s, 0) by rw [HV.out, if_neg hlt2])
            go_wp2_with fail
            refine (empty_any _ _ _).mono ?_
            rintro e wf ⟨rfl, hbf0⟩
            have hbf : Below wr.heap.size wr wf := by first | exact hbf0 | exact ((Below.refl _ _).alloc (Nat.le_refl _) _).trans (hbf0.mono (by simp))
            have t0 := (hbf.cell (p := ⟨w.heap.size + 1, 0, none⟩) (by simp; omega)).trans r0
            have t1 := (hbf.cell (p := ⟨w.heap.size + 1, 1, none⟩) (by simp; omega)).trans r1
            have u0 := (hbf.frozen (p := ⟨w.heap.size + 1, 0, none⟩) (by simp; omega)).trans z0
            have u1 := (hbf.frozen (p := ⟨w.heap.size + 1, 1, none⟩) (by simp; omega)).trans z1
            have v0 := (hbf.cell (p := ⟨W2.heap.size, 0, none⟩) (by simp; omega)).trans HQ0.out
            have v1 := (hbf.cell (p := ⟨W2.heap.size, 1, none⟩) (by simp; omega)).trans HQ1.out
            go_wp2_with fail
            refine bodyPost_ret (v := .tuple #[.agg #[.int .i64 s.1, .int .i64 s.2], .int .i64 0]) (by simp [results, Try.results72, go_sem, *]) rfl ⟨by rw [HV2.out], ?_⟩
            repeat (first | exact hbl.trans (hbf.mono (by omega)) | refine Below.alloc ?_ (by simp <;> omega) _ | refine Below.setCell ?_ (by simp) _)

    · have HTk : Hid ((g.rs.takeWhile fun r => decide (r.tick ≤ now)) = g.rs.take k) := hid (takeWhile_take hk (fun i hi hik => by have := hkn.out i hi hik; simpa using this) (fun h => absurd h hlt))
      have HS := hid (show sayP g t now = sayOf g t (g.rs.take k) by unfold sayP; rw [HTk.out])
      have n3 : w.heap.size + 1 ≠ wr.heap.size := by omega
      have n4 : w.heap.size + 1 < wr.heap.size := by omega
      have n5 : W2.heap.size ≠ wr.heap.size := by omega
      have Q0 := ha0.out
      have Q1 := ha1.out
      have r0 := (hbw.cell (p := ⟨w.heap.size + 1, 0, none⟩) (by simp; omega)).trans HR0.out
      have r1 := (hbw.cell (p := ⟨w.heap.size + 1, 1, none⟩) (by simp; omega)).trans HR1.out
      have z0 := (hbw.frozen (p := ⟨w.heap.size + 1, 0, none⟩) (by simp; omega)).trans HZ0.out
      have z1 := (hbw.frozen (p := ⟨w.heap.size + 1, 1, none⟩) (by simp; omega)).trans HZ1.out
      by_cases hk0 : k = 0
      · have HV : Hid (sayP g t now = ((0, 0), 4)) := hid (by rw [HS.out, hk0]; rfl)
        have hkd : decide (0 < k) = false := by rw [hk0]; rfl
        rw [hkd]
        clear Q0 Q1 hkd hk0
        go_wp2_with fail
        refine bodyPost_ret (v := .tuple #[.agg #[.int .i64 0, .int .i64 0], .int .i64 4]) (by simp [results, Try.results72, go_sem, *]) rfl ⟨by rw [HV.out], ?_⟩
        repeat (first | exact hbl | refine Below.alloc ?_ (by simp <;> omega) _ | refine Below.setCell ?_ (by simp) _)
      · have hkd : decide (0 < k) = true := by simp; omega
        rw [hkd]
        have hne : g.rs.take k ≠ [] := by
          intro e
          have := congrArg List.length e
          simp at this
          rcases this with h | h
          · exact hk0 h
          · rw [h] at hk; simp at hk; exact hk0 hk
        have HV := hid (show sayP g t now = if (sayFold g t (g.rs.take k)).2 < (sayFold g t (g.rs.take k)).1 then ((0, 0), 9) else (sayFold g t (g.rs.take k), 0) by rw [HS.out]; unfold sayOf; rw [if_neg hne])
        clear hkd hk0 hne HS HTk
        generalize sayFold g t (g.rs.take k) = s at *
        have HQ0 := hid Q0
        have HQ1 := hid Q1
        by_cases hlt2 : s.2 < s.1
        · have HV2 := hid (show sayP g t now = ((0, 0), 9) by rw [HV.out, if_pos hlt2])
          go_wp2_with fail
          refine (empty_any _ _ _).mono ?_
          rintro e wf ⟨rfl, hbf0⟩
          have hbf : Below wr.heap.size wr wf := by first | exact hbf0 | exact ((Below.refl _ _).alloc (Nat.le_refl _) _).trans (hbf0.mono (by simp))
          have t0 := (hbf.cell (p := ⟨w.heap.size + 1, 0, none⟩) (by simp; omega)).trans r0
          have t1 := (hbf.cell (p := ⟨w.heap.size + 1, 1, none⟩) (by simp; omega)).trans r1
          have u0 := (hbf.frozen (p := ⟨w.heap.size + 1, 0, none⟩) (by simp; omega)).trans z0
          have u1 := (hbf.frozen (p := ⟨w.heap.size + 1, 1, none⟩) (by simp; omega)).trans z1
          go_wp2_with fail
          refine bodyPost_ret (v := .tuple #[.agg #[.int .i64 0, .int .i64 0], .int .i64 9]) (by simp [results, Try.results72, go_sem, *]) rfl ⟨by rw [HV2.out], ?_⟩
          repeat (first | exact hbl.trans (hbf.mono (by omega)) | refine Below.alloc ?_ (by simp <;> omega) _ | refine Below.setCell ?_ (by simp) _)
        · have HV2 := hid (show sayP g t now = (s, 0) by rw [HV.out, if_neg hlt2])
          go_wp2_with fail
          refine (empty_any _ _ _).mono ?_
          rintro e wf ⟨rfl, hbf0⟩
          have hbf : Below wr.heap.size wr wf := by first | exact hbf0 | exact ((Below.refl _ _).alloc (Nat.le_refl _) _).trans (hbf0.mono (by simp))
          have t0 := (hbf.cell (p := ⟨w.heap.size + 1, 0, none⟩) (by simp; omega)).trans r0
          have t1 := (hbf.cell (p := ⟨w.heap.size + 1, 1, none⟩) (by simp; omega)).trans r1
          have u0 := (hbf.frozen (p := ⟨w.heap.size + 1, 0, none⟩) (by simp; omega)).trans z0
          have u1 := (hbf.frozen (p := ⟨w.heap.size + 1, 1, none⟩) (by simp; omega)).trans z1
          have v0 := (hbf.cell (p := ⟨W2.heap.size, 0, none⟩) (by simp; omega)).trans HQ0.out
          have v1 := (hbf.cell (p := ⟨W2.heap.size, 1, none⟩) (by simp; omega)).trans HQ1.out
          go_wp2_with fail
          refine bodyPost_ret (v := .tuple #[.agg #[.int .i64 s.1, .int .i64 s.2], .int .i64 0]) (by simp [results, Try.results72, go_sem, *]) rfl ⟨by rw [HV2.out], ?_⟩
          repeat (first | exact hbl.trans (hbf.mono (by omega)) | refine Below.alloc ?_ (by simp <;> omega) _ | refine Below.setCell ?_ (by simp) _)

end Go.Proofs.Ytblneiegekdnjaa
