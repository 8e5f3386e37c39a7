/- Tide, part OW: the walk of TideKnown. -/
import Derived.Test.YtblneiegekdnjaaOK
import Derived.Test.YtblneiegekdnjaaOG
import Derived.Test.YtblneiegekdnjaaFB
import Derived.Deep.RegionHeld3
set_option linter.all false
namespace Go.Proofs.Ytblneiegekdnjaa
open Go.RowKit Go.Shelf

theorem plainLock_any (w : World) :
    Calls Try.prog 43 #[.string ⟨#[108, 111, 99, 107]⟩, .int .i64 110, .int .i64 600, .int .i64 700] w fun e w' => ∃ p, e = .returned (.agg #[.string exLock.name, .int .i64 exLock.err, .int .i64 exLock.rate, .slice p.da exLock.ds.length p.dc, .slice p.ra exLock.rs.length p.rc]) ∧ GauOk w' p exLock ∧ (p.da = some ⟨w.heap.size + 1, 0, none⟩ ∧ p.ra = some ⟨w.heap.size + 1 + 1, 0, none⟩) ∧ Below w.heap.size w w' := by
  go_enter Try.func43, Try.ntmps43
  go_wp2
  refine bodyPost_ret (v := .agg #[.string exLock.name, .int .i64 50, .int .i64 50, .slice (some ⟨w.heap.size + 1, 0, none⟩) 1 1, .slice (some ⟨w.heap.size + 1 + 1, 0, none⟩) 1 1]) (by simp [results, Try.results43, go_sem, exLock]) rfl ⟨⟨some ⟨w.heap.size + 1, 0, none⟩, 1, some ⟨w.heap.size + 1 + 1, 0, none⟩, 1⟩, rfl, ?_, ⟨rfl, rfl⟩, by repeat (first | exact Below.refl _ _ | refine Below.alloc ?_ (by simp <;> omega) _ | refine Below.setCell ?_ (by simp <;> omega) _ | refine Below.drew ?_ | refine below_drewN ?_ _)⟩
  refine ⟨⟨by decide, by decide, by decide, by simp [exLock], by simp [exLock], by simp [exLock], by simp [exLock], by decide, by decide⟩, .inr ⟨_, _, rfl, by simp <;> omega, fun i hi => ?_⟩, .inr ⟨_, _, rfl, by simp, fun i hi => ?_⟩⟩
  · have h4 : i < 1 := hi
    match i, h4 with
    | 0, _ => exact ⟨by simp [go_sem, exLock], by simp [go_sem, exLock], by simp [go_sem, exLock]⟩
  · have h4 : i < 1 := hi
    match i, h4 with
    | 0, _ => exact ⟨by simp [go_sem, exLock], by simp [go_sem, exLock]⟩

theorem plainWeir_any (w : World) :
    Calls Try.prog 43 #[.string ⟨#[119, 101, 105, 114]⟩, .int .i64 110, .int .i64 0, .int .i64 10] w fun e w' => ∃ p, e = .returned (.agg #[.string exWeir.name, .int .i64 exWeir.err, .int .i64 exWeir.rate, .slice p.da exWeir.ds.length p.dc, .slice p.ra exWeir.rs.length p.rc]) ∧ GauOk w' p exWeir ∧ (p.da = some ⟨w.heap.size + 1, 0, none⟩ ∧ p.ra = some ⟨w.heap.size + 1 + 1, 0, none⟩) ∧ Below w.heap.size w w' := by
  go_enter Try.func43, Try.ntmps43
  go_wp2
  refine bodyPost_ret (v := .agg #[.string exWeir.name, .int .i64 5, .int .i64 50, .slice (some ⟨w.heap.size + 1, 0, none⟩) 1 1, .slice (some ⟨w.heap.size + 1 + 1, 0, none⟩) 1 1]) (by simp [results, Try.results43, go_sem, exWeir]) rfl ⟨⟨some ⟨w.heap.size + 1, 0, none⟩, 1, some ⟨w.heap.size + 1 + 1, 0, none⟩, 1⟩, rfl, ?_, ⟨rfl, rfl⟩, by repeat (first | exact Below.refl _ _ | refine Below.alloc ?_ (by simp <;> omega) _ | refine Below.setCell ?_ (by simp <;> omega) _ | refine Below.drew ?_ | refine below_drewN ?_ _)⟩
  refine ⟨⟨by decide, by decide, by decide, by simp [exWeir], by simp [exWeir], by simp [exWeir], by simp [exWeir], by decide, by decide⟩, .inr ⟨_, _, rfl, by simp <;> omega, fun i hi => ?_⟩, .inr ⟨_, _, rfl, by simp, fun i hi => ?_⟩⟩
  · have h4 : i < 1 := hi
    match i, h4 with
    | 0, _ => exact ⟨by simp [go_sem, exWeir], by simp [go_sem, exWeir], by simp [go_sem, exWeir]⟩
  · have h4 : i < 1 := hi
    match i, h4 with
    | 0, _ => exact ⟨by simp [go_sem, exWeir], by simp [go_sem, exWeir]⟩

theorem ints_alloc (w : World) (l : List Int) (T : TypeId) : IntsAt (w.alloc (.cells (l.map fun x => Value.int .i64 x).toArray T)) (some ⟨w.heap.size, 0, none⟩) l := by
  refine .inr ⟨w.heap.size, 0, rfl, by simp, fun i hi => ?_⟩
  rw [cell_of_row _ w.heap.size _ _ T (0, 0) (heap_alloc_new w _)]
  simp [hi]
theorem rintsVal (l : List Int) (a b : Option Addr) (ca cb n : Nat) (w : World) (hn : l.length = n) (h8 : n ≤ 8) (ha : IntsAt w a l) (hb : IntsAt w b l) :
    Calls Try.prog 36 #[.slice a n ca, .slice b n cb] w fun e w' => e = .returned (.bool true) ∧ Below w.heap.size w w' := by
  subst hn; exact rints_eq l a b ca cb w (by omega) ha hb
theorem highVal2 (a : Option Addr) (x : Int) (l : List Int) (n : Nat) (w : World) (hn : l.length = n) (hok : ConsOk w a 1 [exCon]) (hH : highP 100 [exCon] x 2 = (l, 0)) :
    Calls Try.prog 41 #[.agg #[.int .i64 100, .slice a [exCon].length 1], .int .i64 x, .int .i64 2] w
      fun e w' => ∃ la lc, e = .returned (.tuple #[.slice la n lc, .int .i64 0]) ∧ IntsAt w' la l ∧ Below w.heap.size w w' := by
  subst hn; exact highVal 100 a 1 [exCon] x 2 (l, 0) w hok hH
theorem saysValK (p : GPos) (t now : Int) (s : Int × Int) (w : World) (hok : GauOk w p exGau) (hs : saysP exGau t now = (s, 0)) :
    Calls Try.prog 30 #[.agg #[.string exGau.name, .int .i64 exGau.err, .int .i64 exGau.rate, .slice p.da exGau.ds.length p.dc, .slice p.ra exGau.rs.length p.rc], .int .i64 t, .int .i64 now] w
      fun e w' => e = .returned (.tuple #[.agg #[.int .i64 s.1, .int .i64 s.2], .int .i64 0]) ∧ Below w.heap.size w w' := by
  have := saysFn_any exGau p t now w hok
  rwa [hs] at this
theorem soundK (a : Option Addr) (cap n : Nat) (gs : List Gau) (wrong : Int) (r : (Int × Int) × Int) (w : World) (hn : gs.length = n) (h8 : n ≤ 8) (hcap : n ≤ cap) (hgs : GausAt w a gs) (hr : SoundIs gs wrong 110 110 r) :
    Calls Try.prog 32 #[.slice a n cap, .int .i64 wrong, .int .i64 110, .int .i64 110] w
      fun e w' => e = .returned (.tuple #[.agg #[.int .i64 r.1.1, .int .i64 r.1.2], .int .i64 r.2]) ∧ Below w.heap.size w w' := by
  subst hn
  refine (sound_any a cap gs wrong 110 110 w hcap (by omega) hgs).mono ?_
  rintro e w' ⟨q, rfl, hq, hb⟩
  rw [hq.unique hr]
  exact ⟨rfl, hb⟩
theorem agreeK (a : Option Addr) (cap n : Nat) (gs : List Gau) (m : Int) (l : List Int) (k : Nat) (w : World) (hn : gs.length = n) (hk : l.length = k) (h8 : n ≤ 8) (hcap : n ≤ cap) (hgs : GausAt w a gs) (hr : AgreeIs gs 110 110 m l 0) :
    Calls Try.prog 34 #[.slice a n cap, .int .i64 110, .int .i64 110] w
      fun e w' => ∃ b c, e = .returned (.tuple #[.int .i64 m, .slice b k c, .int .i64 0]) ∧ IntsAt w' b l ∧ Below w.heap.size w w' := by
  subst hn hk
  refine (agree_any a cap gs 110 110 w hcap (by omega) hgs).mono ?_
  rintro e w' ⟨m', L, er, b, c, rfl, hL, _, hq, hb⟩
  obtain ⟨rfl, rfl, rfl⟩ := hq.unique hr
  exact ⟨b, c, rfl, hL, hb⟩
theorem fitK (p : GPos) (a : Option Addr) (w : World) (hok : GauOk w p exGau) (hL : SpansAt w a [(590, 595)]) :
    Calls Try.prog 37 #[.agg #[.string exGau.name, .int .i64 exGau.err, .int .i64 exGau.rate, .slice p.da exGau.ds.length p.dc, .slice p.ra exGau.rs.length p.rc], .int .i64 1, .int .i64 110, .slice a 1 1] w
      fun e w' => e = .returned (.tuple #[.agg #[.int .i64 30, .int .i64 40], .int .i64 0]) ∧ Below w.heap.size w w' := by
  have := fitFn_any exGau p 1 110 a 1 [(590, 595)] w hok (by simp) hL
  rwa [ex_fit] at this

/-- A box of two noughts. -/
structure Box0 (W : World) (X : Nat) : Prop where
  c0 : W.cell? ⟨X, 0, none⟩ = some (.int .i64 0)
  c1 : W.cell? ⟨X, 1, none⟩ = some (.int .i64 0)
  f0 : W.frozen? ⟨X, 0, none⟩ = false
  f1 : W.frozen? ⟨X, 1, none⟩ = false
  lt : X < W.heap.size
theorem Box0.later {W w1 : World} {X : Nat} (h : Box0 W X) (hb : Below W.heap.size W w1) : Box0 w1 X :=
  ⟨(hb.cell (p := ⟨X, 0, none⟩) h.lt).trans h.c0, (hb.cell (p := ⟨X, 1, none⟩) h.lt).trans h.c1, (hb.frozen (p := ⟨X, 0, none⟩) h.lt).trans h.f0, (hb.frozen (p := ⟨X, 1, none⟩) h.lt).trans h.f1, Nat.lt_of_lt_of_le h.lt hb.size⟩
theorem Box0.new (W : World) (T : TypeId) : Box0 (W.alloc (.cells #[.int .i64 0, .int .i64 0] T)) W.heap.size :=
  ⟨by simp [go_sem], by simp [go_sem], by simp [go_sem], by simp [go_sem], by simp⟩
/-- A box of two numbers. -/
structure BoxV (V : World) (X : Nat) (a b : Int) : Prop where
  c0 : V.cell? ⟨X, 0, none⟩ = some (.int .i64 a)
  c1 : V.cell? ⟨X, 1, none⟩ = some (.int .i64 b)
  lt : X < V.heap.size
theorem BoxV.later {W w1 : World} {X : Nat} {a b : Int} (h : BoxV W X a b) (hb : Below W.heap.size W w1) : BoxV w1 X a b :=
  ⟨(hb.cell (p := ⟨X, 0, none⟩) h.lt).trans h.c0, (hb.cell (p := ⟨X, 1, none⟩) h.lt).trans h.c1, Nat.lt_of_lt_of_le h.lt hb.size⟩
theorem BoxV.new (W : World) (T : TypeId) (a b : Int) : BoxV (W.alloc (.cells #[.int .i64 a, .int .i64 b] T)) W.heap.size a b :=
  ⟨by simp [go_sem], by simp [go_sem], by simp⟩
theorem Box0.sets {W : World} {X : Nat} (h : Box0 W X) (a b : Int) : BoxV ((W.setCell ⟨X, 0, none⟩ (.int .i64 a)).setCell ⟨X, 1, none⟩ (.int .i64 b)) X a b :=
  ⟨(World.cell?_setCell_other _ _ _ _ (by simp)).trans (World.cell?_setCell_same' _ _ _ (by rw [h.c0]; rfl)),
    World.cell?_setCell_same' _ _ _ (by rw [World.cell?_setCell_other _ _ _ _ (by simp), h.c1]; rfl), by simpa using h.lt⟩
/-- What a drawn region keeps: all below B, and a cell there. -/
def HeldK (B : Nat) (W0 : World) (p : Addr) (v : Value) (W : World) : Prop := Below B W0 W ∧ W.cell? p = some v
theorem HeldK.start {W0 : World} {p : Addr} {v : Value} (_hp : p.block < W0.heap.size) (h : W0.cell? p = some v) : HeldK W0.heap.size W0 p v W0.drew := ⟨(Below.refl _ _).drew, by simpa using h⟩
theorem HeldK.step {B : Nat} {W0 W w1 : World} {p : Addr} {v : Value} (hp : p.block < B) (hB : B ≤ W0.heap.size) (hb : Below W.heap.size W w1) (h : Below B W0 W ∧ W.cell? p = some v) : Below B W0 w1 ∧ w1.cell? p = some v :=
  have hs := h.1.size
  ⟨h.1.trans (hb.mono (by omega)), (hb.cell (by show p.block < W.heap.size; omega)).trans h.2⟩
theorem HeldK.sets {B : Nat} {W0 W : World} {p : Addr} {v u0 u1 : Value} {X : Nat} (h : Below B W0 W ∧ W.cell? p = some v) (hX : B ≤ X) (hp : p.block < X) : Below B W0 ((W.setCell ⟨X, 0, none⟩ u0).setCell ⟨X, 1, none⟩ u1) ∧ ((W.setCell ⟨X, 0, none⟩ u0).setCell ⟨X, 1, none⟩ u1).cell? p = some v :=
  ⟨(h.1.setCell (p := ⟨X, 0, none⟩) hX _).setCell (p := ⟨X, 1, none⟩) hX _, by
    rw [World.cell?_setCell_other _ _ _ _ (by intro e; rw [← e] at hp; exact absurd hp (Nat.lt_irrefl _)), World.cell?_setCell_other _ _ _ _ (by intro e; rw [← e] at hp; exact absurd hp (Nat.lt_irrefl _))]; exact h.2⟩

theorem HeldK2.step {B : Nat} {W0 W w1 : World} {p q : Addr} {u v : Value} (hp : p.block < B) (hq : q.block < B) (hB : B ≤ W0.heap.size) (hb : Below W.heap.size W w1) (h : Below B W0 W ∧ W.cell? p = some u ∧ W.cell? q = some v) : Below B W0 w1 ∧ w1.cell? p = some u ∧ w1.cell? q = some v :=
  have hs := h.1.size
  ⟨h.1.trans (hb.mono (by omega)), (hb.cell (by show p.block < W.heap.size; omega)).trans h.2.1, (hb.cell (by show q.block < W.heap.size; omega)).trans h.2.2⟩
theorem set_far {W : World} {X : Nat} {u0 u1 : Value} {p : Addr} (hp : p.block < X) : ((W.setCell ⟨X, 0, none⟩ u0).setCell ⟨X, 1, none⟩ u1).cell? p = W.cell? p := by
  rw [World.cell?_setCell_other _ _ _ _ (by intro e; rw [← e] at hp; exact absurd hp (Nat.lt_irrefl _)), World.cell?_setCell_other _ _ _ _ (by intro e; rw [← e] at hp; exact absurd hp (Nat.lt_irrefl _))]
theorem HeldK2.sets {B : Nat} {W0 W : World} {p q : Addr} {u v u0 u1 : Value} {X : Nat} (h : Below B W0 W ∧ W.cell? p = some u ∧ W.cell? q = some v) (hX : B ≤ X) (hp : p.block < X) (hq : q.block < X) : Below B W0 ((W.setCell ⟨X, 0, none⟩ u0).setCell ⟨X, 1, none⟩ u1) ∧ ((W.setCell ⟨X, 0, none⟩ u0).setCell ⟨X, 1, none⟩ u1).cell? p = some u ∧ ((W.setCell ⟨X, 0, none⟩ u0).setCell ⟨X, 1, none⟩ u1).cell? q = some v :=
  ⟨(h.1.setCell (p := ⟨X, 0, none⟩) hX _).setCell (p := ⟨X, 1, none⟩) hX _, (set_far hp).trans h.2.1, (set_far hq).trans h.2.2⟩

theorem two_gaus (p0 p1 : GPos) (w : World) (T : TypeId) (h0 : GauOk w p0 exGau) (h1 : GauOk w p1 exLock) : GausAt (w.alloc (.cells #[.string exGau.name, .int .i64 exGau.err, .int .i64 exGau.rate, .slice p0.da exGau.ds.length p0.dc, .slice p0.ra exGau.rs.length p0.rc, .string exLock.name, .int .i64 exLock.err, .int .i64 exLock.rate, .slice p1.da exLock.ds.length p1.dc, .slice p1.ra exLock.rs.length p1.rc] T)) (some ⟨w.heap.size, 0, none⟩) exTwo := by
  have hown : (w.alloc (.cells #[.string exGau.name, .int .i64 exGau.err, .int .i64 exGau.rate, .slice p0.da exGau.ds.length p0.dc, .slice p0.ra exGau.rs.length p0.rc, .string exLock.name, .int .i64 exLock.err, .int .i64 exLock.rate, .slice p1.da exLock.ds.length p1.dc, .slice p1.ra exLock.rs.length p1.rc] T)).ownsRow w.heap.size T 5 (.slice (some ⟨w.heap.size, 0, none⟩) 2 2) [(exGau, p0), (exLock, p1)].length (gauVals [(exGau, p0), (exLock, p1)]) :=
    ⟨rfl, .inr ⟨w.heap.size, 2, _, rfl, Nat.le_refl _, heap_alloc_new w _, Nat.le_refl _, by decide, rfl, rfl⟩⟩
  have hb : Below w.heap.size w (w.alloc (.cells #[.string exGau.name, .int .i64 exGau.err, .int .i64 exGau.rate, .slice p0.da exGau.ds.length p0.dc, .slice p0.ra exGau.rs.length p0.rc, .string exLock.name, .int .i64 exLock.err, .int .i64 exLock.rate, .slice p1.da exLock.ds.length p1.dc, .slice p1.ra exLock.rs.length p1.rc] T)) := (Below.refl _ _).alloc (Nat.le_refl _) _
  obtain ⟨a, cap, hv, _, hg⟩ := gausAt_of_own hown (fun r hr => by
    rcases List.mem_cons.1 hr with rfl | hr
    · exact h0.later hb (Nat.le_refl _)
    · obtain rfl := List.mem_singleton.1 hr
      exact h1.later hb (Nat.le_refl _))
  injection hv with e1 e2 e3
  rw [e1]; exact hg
theorem below_grown {B : Nat} {X w1 : World} {v : Value} {b : Nat} (h : X.grownBy w1 v.ownBlock) (hb : B ≤ b) (hs : B ≤ X.heap.size) (e : v.ownBlock = some b) : Below B X w1 :=
  ⟨h.os, h.tape, h.output, h.size, fun k hk => h.block k (by omega) (fun e' => by rw [e] at e'; cases e'; omega)⟩

theorem GauOk.grown {w w' : World} {p : GPos} {g : Gau} {r : Option Nat} (h : GauOk w p g) (hg : w.grownBy w' r) (hd : ∀ a, p.da = some a → some a.block ≠ r) (hr : ∀ a, p.ra = some a → some a.block ≠ r) : GauOk w' p g := by
  refine ⟨h.wf, ?_, ?_⟩
  · rcases h.ds with h0 | ⟨b, o, ha, hs, hc⟩
    · exact .inl h0
    · have e : ∀ j, w'.cell? ⟨b, j, none⟩ = w.cell? ⟨b, j, none⟩ := fun j => hg.cell_far ⟨b, j, none⟩ hs (show some b ≠ r from hd _ ha)
      exact .inr ⟨b, o, ha, Nat.lt_of_lt_of_le hs hg.size, fun i hi => ⟨(e _).trans (hc i hi).c0, (e _).trans (hc i hi).c1, (e _).trans (hc i hi).c2⟩⟩
  · rcases h.rs with h0 | ⟨b, o, ha, hs, hc⟩
    · exact .inl h0
    · have e : ∀ j, w'.cell? ⟨b, j, none⟩ = w.cell? ⟨b, j, none⟩ := fun j => hg.cell_far ⟨b, j, none⟩ hs (show some b ≠ r from hr _ ha)
      exact .inr ⟨b, o, ha, Nat.lt_of_lt_of_le hs hg.size, fun i hi => ⟨(e _).trans (hc i hi).c0, (e _).trans (hc i hi).c1⟩⟩
theorem span_alloc (w : World) (a b : Int) (T : TypeId) : SpansAt (w.alloc (.cells #[.int .i64 a, .int .i64 b] T)) (some ⟨w.heap.size, 0, none⟩) [(a, b)] := by
  refine .inr ⟨w.heap.size, 0, rfl, by simp, fun i hi => ?_⟩
  obtain rfl : i = 0 := by simpa using hi
  exact ⟨by simp [go_sem], by simp [go_sem]⟩
theorem gau_one1 (g : Gau) (p : GPos) : ∀ u ∈ gauCells g p, u.oneCell' = true := fun u hu => gau_one [(g, p)] u (by simpa [gauVals] using hu)

set_option maxRecDepth 100000 in
set_option maxHeartbeats 32000000 in
theorem lawKnown_any (w : World) :
    Calls Try.prog 8 #[] w fun e w' => e = .returned (.bool true) ∧ Below w.heap.size w w' := by
  obtain ⟨i0, hi, hz0, hz1, hz2⟩ := info_parts A.infoGau
  go_enter Try.func8, Try.ntmps8
  go_wp2_with fail
  generalize hW1 : World.alloc (World.alloc w _) _ = W1
  have B1 : Below w.heap.size w W1 := by rw [← hW1]; repeat (first | exact Below.refl _ _ | refine Below.alloc ?_ (by simp <;> omega) _)
  have S1 : w.heap.size + 1 < W1.heap.size := by rw [← hW1]; simp
  have HT := hid (show ∀ k : Nat, k < 3 → W1.cell? ⟨w.heap.size, k, none⟩ = some (.int .i64 (exTicks.getD k 0)) by
    intro k hk; rw [← hW1]
    match k, hk with
    | 0, _ => simp [go_sem, exTicks]
    | 1, _ => simp [go_sem, exTicks]
    | 2, _ => simp [go_sem, exTicks])
  have HL := hid (show ∀ k : Nat, k < 3 → W1.cell? ⟨w.heap.size + 1, k * 2, none⟩ = some (.int .i64 (exLevels.getD k (0, 0)).1) ∧ W1.cell? ⟨w.heap.size + 1, k * 2 + 1, none⟩ = some (.int .i64 (exLevels.getD k (0, 0)).2) by
    intro k hk; rw [← hW1]
    match k, hk with
    | 0, _ => constructor <;> simp [go_sem, exLevels]
    | 1, _ => constructor <;> simp [go_sem, exLevels]
    | 2, _ => constructor <;> simp [go_sem, exLevels])
  clear hW1
  go_loopw [3] (fun i wr => ∃ k : Nat, k ≤ 3 ∧ i = .int .i64 k ∧ Below W1.heap.size W1 wr) (fun i _ => 3 - (intOf i).toNat)
  case atStart => exact ⟨0, by omega, rfl, Below.refl _ _⟩
  case round =>
    obtain ⟨k, hk, rfl, hbw⟩ := hrel
    have hsz := hbw.size
    by_cases hlt : k < 3
    · have hkI : (k : Int) < 3 := by omega
      have hk0 : (0 : Int) ≤ (k : Int) := Int.natCast_nonneg _
      have tc := (hbw.cell (p := ⟨w.heap.size, k, none⟩) (by show w.heap.size < _; omega)).trans (HT.out k hlt)
      have KL := hid (show ∀ V, Below W1.heap.size W1 V → V.cell? ⟨w.heap.size + 1, k * 2, none⟩ = some (.int .i64 (exLevels.getD k (0, 0)).1) ∧ V.cell? ⟨w.heap.size + 1, k * 2 + 1, none⟩ = some (.int .i64 (exLevels.getD k (0, 0)).2) from fun V hV =>
        ⟨(hV.cell (p := ⟨w.heap.size + 1, k * 2, none⟩) S1).trans (HL.out k hlt).1, (hV.cell (p := ⟨w.heap.size + 1, k * 2 + 1, none⟩) S1).trans (HL.out k hlt).2⟩)
      have HQ := hid (ex_levels k hlt)
      generalize exTicks.getD k 0 = tk at *
      generalize exLevels.getD k (0, 0) = lv at *
      have TC := hid tc
      clear tc
      have S0 : HeldK wr.heap.size wr ⟨w.heap.size, k, none⟩ (.int .i64 tk) wr.drew := HeldK.start (by show w.heap.size < _; omega) TC.out
      go_wp2_with fail
      go_region_held3 (fun w' => Below wr.heap.size wr w' ∧ w'.cell? ⟨w.heap.size, k, none⟩ = some (.int .i64 tk))
        (first | exact S0 | exact HeldK.step (by show w.heap.size < _; omega) (Nat.le_refl _) (by assumption) (by assumption) | exact HeldK.step (by show w.heap.size < _; omega) (Nat.le_refl _) ((Below.refl _ _).alloc (Nat.le_refl _) _) (by assumption) | exact HeldK.step (by show w.heap.size < _; omega) (Nat.le_refl _) ((Below.refl _ _).alloc (Nat.le_refl _) _) h3.out | exact HeldK.sets (by assumption) (by first | omega | exact Nat.le_refl _) (by show w.heap.size < _; omega))
        (first
          | (go_at_call 39; refine (table_any _).mono ?_; rintro e w2 ⟨ta, rfl, hok, hb2⟩; have z2 := hb2.size; simp at z2; (first | have bx : Box0 w2 wr.heap.size := by exact (Box0.new wr.drew _).later hb2 | skip))
          | (go_at_call 23; refine (levelVal 100 ta 1 [exCon] tk (lv, 0) _ (by first | exact hok | exact hok.later ((Below.refl _ _).alloc (Nat.le_refl _) _) (Nat.le_refl _)) HQ.out).mono ?_; rintro e w3 ⟨rfl, hb3⟩; have h3 : Hid (Below wr.heap.size wr w3 ∧ w3.cell? ⟨w.heap.size, k, none⟩ = some (.int .i64 tk)) := hid (HeldK.step (by show w.heap.size < _; omega) (Nat.le_refl _) hb3 (by assumption)); (first | have bz : Box0 w3 wr.heap.size := by exact bx.later hb3 | have bz : Box0 w3 w2.heap.size := by exact (Box0.new w2 _).later hb3 | skip); (try (have bzz := hid bz; rcases bz with ⟨x0, x1, y0, y1, xl⟩))))
      all_goals
        first
          | (generalize hV : World.alloc w3 _ = V
             have PX : BoxV V w3.heap.size lv.1 lv.2 := by rw [← hV]; exact BoxV.new _ _ _ _
             have hH : Below wr.heap.size wr V := by rw [← hV]; exact (‹Below wr.heap.size wr _ ∧ _ = _›).1
             generalize w3.heap.size = X at PX ⊢)
          | (generalize hV : World.setCell (World.setCell w3 _ _) _ _ = V
             have hH : Below wr.heap.size wr V := by rw [← hV]; exact (‹Below wr.heap.size wr _ ∧ _ = _›).1
             first
               | (have PX : BoxV V wr.heap.size lv.1 lv.2 := by rw [← hV]; exact bzz.out.sets _ _
                  generalize hX : wr.heap.size = X at PX ⊢
                  clear hX)
               | (have PX : BoxV V w2.heap.size lv.1 lv.2 := by rw [← hV]; exact bzz.out.sets _ _
                  generalize hX : w2.heap.size = X at PX ⊢
                  clear hX))
        have BV : Below W1.heap.size W1 V := hbw.trans (hH.mono hsz)
        obtain ⟨l0, l1⟩ := KL.out V BV
        obtain ⟨p0, p1, pl⟩ := PX
        clear hV hH S0 h3 hb2 hb3 hok TC
        go_wp2_with fail
        go_quiet (fail)
        go_wp2_with fail
        refine ⟨⟨k + 1, by omega, by go_num, below_drewN BV _⟩, ?_⟩
        simp [intOf]; omega
    · obtain rfl : k = 3 := by omega
      have BA : Below w.heap.size w wr := B1.trans (hbw.mono (by omega))
      clear HT HL hbw hlt hk
      obtain ⟨V0, hV0⟩ : ∃ V, V = wr := ⟨_, rfl⟩
      subst hV0
      go_wp2_with fail
      refine (table_any _).mono ?_
      rintro e w2 ⟨ta, rfl, hok, b2⟩
      have HO := hid hok; clear hok
      go_wp2_with fail
      refine (periodVal 100 ta 1 [exCon] (74, 0) _ HO.out ex_period).mono ?_
      rintro e w3 ⟨rfl, b3⟩
      clear HO
      go_wp2_with fail
      refine (table_any _).mono ?_
      rintro e w4 ⟨tb, rfl, hok, b4⟩
      have HO := hid hok; clear hok
      go_wp2_with fail
      refine (highVal2 tb 18 [18, 19] 2 _ rfl HO.out ex_high1).mono ?_
      rintro e w5 ⟨la1, lc1, rfl, hI1, b5⟩
      have HI1 := hid hI1; clear hI1 HO
      go_wp2_with fail
      refine (table_any _).mono ?_
      rintro e w6 ⟨tc, rfl, hok, b6⟩
      have HO := hid hok; clear hok
      go_wp2_with fail
      refine (highVal2 tc 0 [1] 1 _ rfl HO.out ex_high2).mono ?_
      rintro e w7 ⟨la2, lc2, rfl, hI2, b7⟩
      have HI2 := hid hI2; clear hI2 HO
      have b67 := b6.trans (b7.mono b6.size)
      have b27 : Below V0.heap.size V0 w7 := b2.trans ((b3.trans ((b4.trans ((b5.trans (b67.mono b5.size)).mono b4.size)).mono b3.size)).mono b2.size)
      have HI1b := hid (HI1.out.later b67 (Nat.le_refl _))
      have BA7 : Below w.heap.size w w7 := BA.trans (b27.mono BA.size)
      clear b2 b3 b4 b5 b6 b7 b67 b27 HI1 BA
      go_wp2_with fail
      refine (rintsVal [18, 19] la1 _ lc1 2 2 _ rfl (by decide) (HI1b.out.later ((Below.refl _ _).alloc (Nat.le_refl _) _) (Nat.le_refl _)) (ints_alloc _ [18, 19] _)).mono ?_
      rintro e w8 ⟨rfl, b8⟩
      have b78 : Below w7.heap.size w7 w8 := ((Below.refl _ _).alloc (Nat.le_refl _) _).trans (b8.mono (by simp))
      have HI2b := hid (HI2.out.later b78 (Nat.le_refl _))
      clear HI1b HI2 b8
      go_wp2_with fail
      refine (rintsVal [1] la2 _ lc2 1 1 _ rfl (by decide) (HI2b.out.later ((Below.refl _ _).alloc (Nat.le_refl _) _) (Nat.le_refl _)) (ints_alloc _ [1] _)).mono ?_
      rintro e w9 ⟨rfl, b9⟩
      have BA9 : Below w.heap.size w w9 := (BA7.trans (b78.mono BA7.size)).trans (((Below.refl _ _).alloc (Nat.le_refl _) _).trans (b9.mono (by simp)) |>.mono (by have := BA7.size; have := b78.size; omega))
      clear HI2b b9 b78 BA7 B1 S1
      go_wp2_with fail
      generalize hW10 : World.alloc (World.alloc (World.alloc w9 _) _) _ = W10
      have B10 : Below w9.heap.size w9 W10 := by rw [← hW10]; repeat (first | exact Below.refl _ _ | refine Below.alloc ?_ (by simp <;> omega) _)
      have S10 : w9.heap.size + 1 + 1 < W10.heap.size := by rw [← hW10]; simp
      have HT := hid (show ∀ k : Nat, k < 4 → W10.cell? ⟨w9.heap.size, k, none⟩ = some (.int .i64 (exAt.getD k 0)) ∧ W10.cell? ⟨w9.heap.size + 1, k, none⟩ = some (.int .i64 (exNow.getD k 0)) by
        intro k hk; rw [← hW10]
        match k, hk with
        | 0, _ => constructor <;> simp [go_sem, exAt, exNow]
        | 1, _ => constructor <;> simp [go_sem, exAt, exNow]
        | 2, _ => constructor <;> simp [go_sem, exAt, exNow]
        | 3, _ => constructor <;> simp [go_sem, exAt, exNow])
      have HL := hid (show ∀ k : Nat, k < 4 → W10.cell? ⟨w9.heap.size + 1 + 1, k * 2, none⟩ = some (.int .i64 (exSays.getD k (0, 0)).1) ∧ W10.cell? ⟨w9.heap.size + 1 + 1, k * 2 + 1, none⟩ = some (.int .i64 (exSays.getD k (0, 0)).2) by
        intro k hk; rw [← hW10]
        match k, hk with
        | 0, _ => constructor <;> simp [go_sem, exSays]
        | 1, _ => constructor <;> simp [go_sem, exSays]
        | 2, _ => constructor <;> simp [go_sem, exSays]
        | 3, _ => constructor <;> simp [go_sem, exSays])
      clear hW10
      go_loopw [15] (fun i wr => ∃ k : Nat, k ≤ 4 ∧ i = .int .i64 k ∧ Below W10.heap.size W10 wr) (fun i _ => 4 - (intOf i).toNat)
      case atStart => exact ⟨0, by omega, rfl, Below.refl _ _⟩
      case round =>
        obtain ⟨k, hk, rfl, hbw⟩ := hrel
        obtain ⟨wq, hwq⟩ : ∃ V, V = wr := ⟨_, rfl⟩
        subst hwq
        have hsz := hbw.size
        by_cases hlt : k < 4
        · have hkI : (k : Int) < 4 := by omega
          have hk0 : (0 : Int) ≤ (k : Int) := Int.natCast_nonneg _
          have ta := (hbw.cell (p := ⟨w9.heap.size, k, none⟩) (by show w9.heap.size < _; omega)).trans (HT.out k hlt).1
          have tn := (hbw.cell (p := ⟨w9.heap.size + 1, k, none⟩) (by show w9.heap.size + 1 < _; omega)).trans (HT.out k hlt).2
          have KL := hid (show ∀ V, Below W10.heap.size W10 V → V.cell? ⟨w9.heap.size + 1 + 1, k * 2, none⟩ = some (.int .i64 (exSays.getD k (0, 0)).1) ∧ V.cell? ⟨w9.heap.size + 1 + 1, k * 2 + 1, none⟩ = some (.int .i64 (exSays.getD k (0, 0)).2) from fun V hV =>
            ⟨(hV.cell (p := ⟨w9.heap.size + 1 + 1, k * 2, none⟩) S10).trans (HL.out k hlt).1, (hV.cell (p := ⟨w9.heap.size + 1 + 1, k * 2 + 1, none⟩) S10).trans (HL.out k hlt).2⟩)
          have HQ := hid (ex_says k hlt)
          generalize exAt.getD k 0 = ak at *
          generalize exNow.getD k 0 = nk at *
          generalize exSays.getD k (0, 0) = lv at *
          have S0 : Below wq.heap.size wq wq.drew ∧ wq.drew.cell? ⟨w9.heap.size, k, none⟩ = some (.int .i64 ak) ∧ wq.drew.cell? ⟨w9.heap.size + 1, k, none⟩ = some (.int .i64 nk) := ⟨(Below.refl _ _).drew, by simpa using ta, by simpa using tn⟩
          have HS0 := hid S0
          clear ta tn S0
          go_wp2_with fail
          go_region_held3 (fun w' => Below wq.heap.size wq w' ∧ w'.cell? ⟨w9.heap.size, k, none⟩ = some (.int .i64 ak) ∧ w'.cell? ⟨w9.heap.size + 1, k, none⟩ = some (.int .i64 nk))
            (first | exact HS0.out | exact HeldK2.step (by show w9.heap.size < _; omega) (by show w9.heap.size + 1 < _; omega) (Nat.le_refl _) (by assumption) (by assumption) | exact HeldK2.step (by show w9.heap.size < _; omega) (by show w9.heap.size + 1 < _; omega) (Nat.le_refl _) ((Below.refl _ _).alloc (Nat.le_refl _) _) (by assumption) | exact HeldK2.step (by show w9.heap.size < _; omega) (by show w9.heap.size + 1 < _; omega) (Nat.le_refl _) ((Below.refl _ _).alloc (Nat.le_refl _) _) h3.out | exact HeldK2.sets (by assumption) (by first | omega | exact Nat.le_refl _) (by show w9.heap.size < _; omega) (by show w9.heap.size + 1 < _; omega))
            (first
              | (go_at_call 42; refine (gauge_any _).mono ?_; rintro e w2 ⟨pg, rfl, hok, hb2⟩; have z2 := hb2.size; simp at z2; (first | have bx : Box0 w2 wq.heap.size := by exact (Box0.new wq.drew _).later hb2 | skip))
              | (go_at_call 30; refine (saysValK pg ak nk lv _ (by first | exact hok | exact hok.later ((Below.refl _ _).alloc (Nat.le_refl _) _) (Nat.le_refl _)) HQ.out).mono ?_; rintro e w3 ⟨rfl, hb3⟩; have h3 : Hid (Below wq.heap.size wq w3 ∧ w3.cell? ⟨w9.heap.size, k, none⟩ = some (.int .i64 ak) ∧ w3.cell? ⟨w9.heap.size + 1, k, none⟩ = some (.int .i64 nk)) := hid (HeldK2.step (by show w9.heap.size < _; omega) (by show w9.heap.size + 1 < _; omega) (Nat.le_refl _) hb3 (by assumption)); (first | have bz : Box0 w3 wq.heap.size := by exact bx.later hb3 | have bz : Box0 w3 w2.heap.size := by exact (Box0.new w2 _).later hb3 | skip); (try (have bzz := hid bz; rcases bz with ⟨x0, x1, y0, y1, xl⟩))))
          all_goals
            first
              | (generalize hV : World.alloc w3 _ = V
                 have PX : BoxV V w3.heap.size lv.1 lv.2 := by rw [← hV]; exact BoxV.new _ _ _ _
                 have hH : Below wq.heap.size wq V := by rw [← hV]; exact (‹Below wq.heap.size wq _ ∧ _ = _ ∧ _ = _›).1
                 generalize w3.heap.size = X at PX ⊢)
              | (generalize hV : World.setCell (World.setCell w3 _ _) _ _ = V
                 have hH : Below wq.heap.size wq V := by rw [← hV]; exact (‹Below wq.heap.size wq _ ∧ _ = _ ∧ _ = _›).1
                 first
                   | (have PX : BoxV V wq.heap.size lv.1 lv.2 := by rw [← hV]; exact bzz.out.sets _ _
                      generalize hX : wq.heap.size = X at PX ⊢
                      clear hX)
                   | (have PX : BoxV V w2.heap.size lv.1 lv.2 := by rw [← hV]; exact bzz.out.sets _ _
                      generalize hX : w2.heap.size = X at PX ⊢
                      clear hX))
            have BV : Below W10.heap.size W10 V := hbw.trans (hH.mono hsz)
            obtain ⟨l0, l1⟩ := KL.out V BV
            obtain ⟨p0, p1, pl⟩ := PX
            clear hV hH h3 hb2 hb3 hok HS0
            go_wp2_with fail
            go_quiet (fail)
            go_wp2_with fail
            refine ⟨⟨k + 1, by omega, by go_num, below_drewN BV _⟩, ?_⟩
            simp [intOf]; omega
        · obtain rfl : k = 4 := by omega
          have BB : Below w.heap.size w wq := BA9.trans ((B10.trans (hbw.mono (by omega))).mono BA9.size)
          clear HT HL hbw hlt hk B10 S10 BA9
          go_wp2_with fail
          refine (gauge_any _).mono ?_
          rintro e w2 ⟨p0, rfl, hok0, b2⟩
          have HO0 := hid hok0; clear hok0
          go_wp2_with fail
          refine (plainLock_any _).mono ?_
          rintro e w3 ⟨p1, rfl, hok1, hpl, b3⟩
          clear hpl
          have HO0b := hid (HO0.out.later b3 (Nat.le_refl _))
          have HO1 := hid hok1
          have b23 := b2.trans (b3.mono b2.size)
          have BB3 : Below w.heap.size w w3 := BB.trans (b23.mono BB.size)
          clear hok1 HO0 b2 b3 b23 BB
          have HTw := hid (two_gaus p0 p1 w3 43 HO0b.out HO1.out)
          go_wp2_with (at_builtin; (refine wpList_append_lies _ rfl _ _ 48 rfl (w3.heap.size + 1) 43 i0 _ 5 80 Try.underlying48 hi hz0 hz1 hz2 rfl (by decide) (.slice (some ⟨w3.heap.size + 1, 0, none⟩) 0 0) 0 [] rfl (own_empty (Nat.le_refl _) (by rw [← World.size_alloc w3 (.cells #[.string exGau.name, .int .i64 exGau.err, .int .i64 exGau.rate, .slice p0.da exGau.ds.length p0.dc, .slice p0.ra exGau.rs.length p0.rc, .string exLock.name, .int .i64 exLock.err, .int .i64 exLock.rate, .slice p1.da exLock.ds.length p1.dc, .slice p1.ra exLock.rs.length p1.rc] 43)]; exact heap_alloc_new _ _)) ⟨w3.heap.size, 0, none⟩ 2 2 (gauVals [(exGau, p0), (exLock, p1)]) rfl rfl (World.news_of_block (cs := #[.string exGau.name, .int .i64 exGau.err, .int .i64 exGau.rate, .slice p0.da exGau.ds.length p0.dc, .slice p0.ra exGau.rs.length p0.rc, .string exLock.name, .int .i64 exLock.err, .int .i64 exLock.rate, .slice p1.da exLock.ds.length p1.dc, .slice p1.ra exLock.rs.length p1.rc]) (t := 43) (fr := (0, 0)) ((Below.heap_alloc _ _ _ (by simp)).trans (heap_alloc_new w3 _))) (gau_one _) (by decide) (by decide) (by decide) (by simp <;> omega) _ rfl ?_); intro gg cp w4 hown hgrow hat hlt4)
          have b34 : Below w3.heap.size w3 w4 := (((Below.refl _ _).alloc (Nat.le_refl _) _).alloc (by simp) _).trans (below_grown (b := w3.heap.size + 1) hgrow (by omega) (by simp <;> omega) rfl)
          have HOw := hid hown
          have bT4 : Below (w3.heap.size + 1) (w3.alloc (.cells #[.string exGau.name, .int .i64 exGau.err, .int .i64 exGau.rate, .slice p0.da exGau.ds.length p0.dc, .slice p0.ra exGau.rs.length p0.rc, .string exLock.name, .int .i64 exLock.err, .int .i64 exLock.rate, .slice p1.da exLock.ds.length p1.dc, .slice p1.ra exLock.rs.length p1.rc] 43)) w4 := ((Below.refl _ _).alloc (by simp) _).trans (below_grown (b := w3.heap.size + 1) hgrow (Nat.le_refl _) (by simp) rfl)
          have s4 : w3.heap.size + 1 ≤ w4.heap.size := by have := bT4.size; simpa using this
          clear hown hgrow hat
          go_wp2_with fail
          refine (plainWeir_any _).mono ?_
          rintro e w5 ⟨p2, rfl, hok2, ⟨hd2, hr2⟩, b5⟩
          have HO2 := hid hok2; have HD2 := hid hd2; have HR2 := hid hr2
          have s5 := b5.size
          have b35 : Below w3.heap.size w3 w5 := b34.trans (b5.mono (by omega))
          have bT5 : Below (w3.heap.size + 1) (w3.alloc (.cells #[.string exGau.name, .int .i64 exGau.err, .int .i64 exGau.rate, .slice p0.da exGau.ds.length p0.dc, .slice p0.ra exGau.rs.length p0.rc, .string exLock.name, .int .i64 exLock.err, .int .i64 exLock.rate, .slice p1.da exLock.ds.length p1.dc, .slice p1.ra exLock.rs.length p1.rc] 43)) w5 := bT4.trans (b5.mono s4)
          have hown5 := HOw.out.kept (row := none) (grown_of_below (row := none) b5) (.inr (by intro e; cases e))
          have hgg := HOw.out.lt gg rfl
          have HOw5 := hid hown5
          clear hok2 hd2 hr2 hown5 HOw b5 b34 bT4
          go_wp2_with (at_builtin; refine wpList_append_lies _ rfl _ _ 48 rfl (w3.heap.size + 1) 43 i0 _ 5 80 Try.underlying48 hi hz0 hz1 hz2 rfl (by decide) (.slice (some ⟨gg, 0, none⟩) 2 cp) 2 _ rfl (HOw5.out.alloc _) ⟨w5.heap.size, 0, none⟩ 1 1 (gauCells exWeir p2) rfl rfl (World.news_of_block (cs := #[.string exWeir.name, .int .i64 exWeir.err, .int .i64 exWeir.rate, .slice p2.da exWeir.ds.length p2.dc, .slice p2.ra exWeir.rs.length p2.rc]) (t := 43) (fr := (0, 0)) (heap_alloc_new w5 _)) (gau_one1 _ _) (by decide) (by decide) (by decide) (by simp <;> omega) _ rfl ?_; intro g2 cq w6 hown2 hgrow2 hat2 hlt6)
          have b56 : Below (w3.heap.size + 1) w5 w6 := ((Below.refl _ _).alloc (by omega) _).trans (below_own (HOw5.out.alloc _) (Nat.le_refl _) (by simp; omega) hgrow2)
          have b36 : Below w3.heap.size w3 w6 := b35.trans (b56.mono (by omega))
          have HTwo := hid ((HTw.out).later (bT5.trans b56) (by simp))
          have hok6 : GauOk w6 p2 exWeir := (HO2.out.later ((Below.refl _ _).alloc (Nat.le_refl _) _) (Nat.le_refl _) : GauOk (w5.alloc _) p2 exWeir).grown hgrow2 (fun a e => by rw [HD2.out] at e; cases e; simp [Value.ownBlock]; omega) (fun a e => by rw [HR2.out] at e; cases e; simp [Value.ownBlock]; omega)
          obtain ⟨at3, cap3, hv3, hcap3, hg3⟩ := gausAt_of_own (l := [(exGau, p0), (exLock, p1), (exWeir, p2)]) (show w6.ownsRow (w3.heap.size + 1) 43 5 (.slice (some ⟨g2, 0, none⟩) 3 cq) 3 (gauVals [(exGau, p0), (exLock, p1), (exWeir, p2)]) from hown2) (fun r hr => by
            rcases List.mem_cons.1 hr with rfl | hr
            · exact HO0b.out.later b36 (Nat.le_refl _)
            rcases List.mem_cons.1 hr with rfl | hr
            · exact HO1.out.later b36 (Nat.le_refl _)
            obtain rfl := List.mem_singleton.1 hr
            exact hok6)
          injection hv3 with v1 v2 v3
          have HThr : Hid (GausAt w6 (some ⟨g2, 0, none⟩) exThree) := hid (by rw [v1]; exact hg3)
          have hq3 : 3 ≤ cq := by rw [v3]; exact hcap3
          have BB6 : Below w.heap.size w w6 := BB3.trans (b36.mono BB3.size)
          have s6 : w3.heap.size + 1 ≤ w6.heap.size := by have := b56.size; omega
          clear HTw HO0b HO1 HO2 HD2 HR2 HOw5 hown2 hgrow2 hat2 hlt6 hok6 v1 v2 v3 hcap3 hg3 b56 b36 b35 bT5 hgg BB3
          go_wp2_with fail
          refine (soundK _ 2 2 exTwo 0 ((600, 630), 0) _ rfl (by decide) (by decide) HTwo.out ex_sound2).mono ?_
          rintro e w7 ⟨rfl, b7⟩
          have HThr7 := hid (HThr.out.later b7 (Nat.le_refl _))
          have BB7 : Below w.heap.size w w7 := BB6.trans (b7.mono BB6.size)
          clear HTwo HThr b7 BB6
          go_wp2_with fail
          have bx7 := BoxV.new w7 32 600 630
          generalize hW8 : World.alloc w7 _ = w8
          have b78 : Below w7.heap.size w7 w8 := by rw [← hW8]; exact (Below.refl _ _).alloc (Nat.le_refl _) _
          have BX8 : BoxV w8 w7.heap.size 600 630 := by rw [← hW8]; exact bx7
          have HThr8 := hid (HThr7.out.later b78 (Nat.le_refl _))
          have BB8 : Below w.heap.size w w8 := BB7.trans (b78.mono BB7.size)
          have HBX := hid BX8
          clear hW8 bx7 BX8 HThr7 b78 BB7
          refine (soundK _ cq 3 exThree 0 ((0, 0), 9) _ rfl (by decide) hq3 HThr8.out ex_sound3).mono ?_
          rintro e w9b ⟨rfl, b9⟩
          have HThr9 := hid (HThr8.out.later b9 (Nat.le_refl _))
          have BB9 : Below w.heap.size w w9b := BB8.trans (b9.mono BB8.size)
          have HBX9 := hid (HBX.out.later b9)
          clear HThr8 BB8 HBX b9
          go_wp2_with fail
          refine (soundK _ cq 3 exThree 1 ((600, 630), 0) _ rfl (by decide) hq3 HThr9.out ex_sound31).mono ?_
          rintro e wA ⟨rfl, bA⟩
          have HThrA := hid (HThr9.out.later bA (Nat.le_refl _))
          have BBA : Below w.heap.size w wA := BB9.trans (bA.mono BB9.size)
          have HBXA := hid (HBX9.out.later bA)
          clear HThr9 BB9 HBX9 bA
          go_wp2_with fail
          generalize hWB : World.alloc wA _ = wB
          have bAB : Below wA.heap.size wA wB := by rw [← hWB]; exact (Below.refl _ _).alloc (Nat.le_refl _) _
          have HBY := hid (show BoxV wB wA.heap.size 600 630 by rw [← hWB]; exact BoxV.new _ _ _ _)
          have HThrB := hid (HThrA.out.later bAB (Nat.le_refl _))
          have BBB : Below w.heap.size w wB := BBA.trans (bAB.mono BBA.size)
          have HBXB := hid (HBXA.out.later bAB)
          clear hWB HThrA BBA HBXA bAB
          refine (agreeK _ cq 3 exThree 2 [2] 1 _ rfl rfl (by decide) hq3 HThrB.out ex_agree3).mono ?_
          rintro e wC ⟨lb, lc, rfl, hL, bC⟩
          have HLs := hid hL
          have BBC : Below w.heap.size w wC := BBB.trans (bC.mono BBB.size)
          have HBXC := hid (HBXB.out.later bC)
          have HBYC := hid (HBY.out.later bC)
          clear hL HThrB BBB HBXB HBY bC
          go_wp2_with fail
          refine (gauge_any _).mono ?_
          rintro e wD ⟨pf, rfl, hokf, bD⟩
          have HOf := hid hokf
          have HLsD := hid (HLs.out.later bD (Nat.le_refl _))
          have BBD : Below w.heap.size w wD := BBC.trans (bD.mono BBC.size)
          have HBXD := hid (HBXC.out.later bD)
          have HBYD := hid (HBYC.out.later bD)
          clear hokf HLs BBC HBXC HBYC bD
          go_wp2_with fail
          refine (fitK pf (some ⟨wD.heap.size, 0, none⟩) _ (HOf.out.later ((Below.refl _ _).alloc (Nat.le_refl _) _) (Nat.le_refl _)) (span_alloc wD 590 595 _)).mono ?_
          rintro e wE ⟨rfl, bE⟩
          have bDE : Below wD.heap.size wD wE := ((Below.refl _ _).alloc (Nat.le_refl _) _).trans (bE.mono (by simp))
          have HLsE := hid (HLsD.out.later bDE (Nat.le_refl _))
          have BBE : Below w.heap.size w wE := BBD.trans (bDE.mono BBD.size)
          have HBXE := hid (HBXD.out.later bDE)
          have HBYE := hid (HBYD.out.later bDE)
          clear HOf HLsD BBD HBXD HBYD bE bDE
          obtain ⟨x0, x1, xl⟩ := HBXE.out
          obtain ⟨y0, y1, yl⟩ := HBYE.out
          go_wp2_with fail
          have bEF : Below wE.heap.size wE (wE.alloc (.cells #[.int .i64 30, .int .i64 40] 32)) := (Below.refl _ _).alloc (Nat.le_refl _) _
          refine (rintsVal [2] lb _ lc 1 1 _ rfl (by decide) ((HLsE.out.later bEF (Nat.le_refl _)).later ((Below.refl _ _).alloc (Nat.le_refl _) _) (Nat.le_refl _)) (by have hq := ints_alloc (World.alloc wE (.cells #[.int .i64 30, .int .i64 40] 32)) [2] 3; rw [World.size_alloc] at hq; exact hq)).mono ?_
          rintro e wG ⟨rfl, bG⟩
          have sG := bG.size
          simp only [World.size_alloc] at sG
          have z0 : wG.cell? ⟨wE.heap.size, 0, none⟩ = some (.int .i64 30) := (bG.cell (p := ⟨wE.heap.size, 0, none⟩) (by simp; omega)).trans (by simp [go_sem])
          have z1 : wG.cell? ⟨wE.heap.size, 1, none⟩ = some (.int .i64 40) := (bG.cell (p := ⟨wE.heap.size, 1, none⟩) (by simp; omega)).trans (by simp [go_sem])
          have zl : wE.heap.size < wG.heap.size := by omega
          have BBG : Below w.heap.size w wG := ((BBE.alloc BBE.size _).alloc (by simp; have := BBE.size; omega) _).trans (bG.mono (by simp; have := BBE.size; omega))
          clear x0 x1 xl y0 y1 yl
          go_wp2_with fail
          refine (awake_any _).mono ?_
          rintro e wH ⟨rfl, bH⟩
          go_wp2_with fail
          go_ret
          exact ⟨rfl, BBG.trans (bH.mono BBG.size)⟩
end Go.Proofs.Ytblneiegekdnjaa
