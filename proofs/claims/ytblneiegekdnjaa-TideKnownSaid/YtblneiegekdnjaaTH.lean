/- Tide, part H: places, and the levels of the tide. -/
import Derived.Test.YtblneiegekdnjaaTG
import Derived.Test.YtblneiegekdnjaaTR
set_option linter.all false
namespace Go.Proofs.Ytblneiegekdnjaa
open Go.RowKit

theorem keepG {B : Nat} {V W w1 : World} {R : Prop} (hb : Below W.heap.size W w1) (h : Below B V W ∧ R) (hB : B ≤ V.heap.size) : Below B V w1 :=
  h.1.trans (hb.mono (Nat.le_trans hB h.1.size))

theorem keepH {B : Nat} {V w1 : World} (hb : Below V.drew.heap.size V.drew w1) (hB : B ≤ V.heap.size) (o : Obj) : Below B V (w1.alloc o) :=
  (((Below.refl _ _).drew).trans (hb.mono hB)).alloc (Nat.le_trans hB hb.size) o
theorem keepSet {B : Nat} {V W : World} {R : Prop} {p : Addr} {u : Value} (h : Below B V W ∧ R) (hp : B ≤ p.block) : Below B V (W.setCell p u) := h.1.setCell hp u
theorem keepH2 {B : Nat} {V : World} (hB : B ≤ V.heap.size) (o : Obj) : Below B V (V.drew.alloc o) := (((Below.refl _ _).drew)).alloc hB o

/-- The number of parts of a cycle. -/
def cyc (c : Con) : Int := c.den * c.hs.length
theorem cyc_bd {c : Con} (h : ConGood c) : 2 ≤ cyc c ∧ cyc c ≤ 48000 := by
  obtain ⟨g1, g2, gh, g3, g4, g5, g6, g7, g8, g9, g10⟩ := h
  have h1 : 1 * 2 ≤ c.den * (c.hs.length : Int) := Int.mul_le_mul g3 (by omega) (by omega) (by omega)
  have h2 : c.den * (c.hs.length : Int) ≤ 1000 * 48 := Int.mul_le_mul g4 (by omega) (by omega) (by omega)
  unfold cyc; omega

/-- A constituent in a box of its own. -/
structure ConBox (w : World) (b : Nat) (c : Con) (ha : Option Addr) (hc : Nat) : Prop where
  c0 : w.cell? ⟨b, 0, none⟩ = some (.string c.name)
  c1 : w.cell? ⟨b, 1, none⟩ = some (.slice ha c.hs.length hc)
  c2 : w.cell? ⟨b, 2, none⟩ = some (.int .i64 c.off)
  c3 : w.cell? ⟨b, 3, none⟩ = some (.int .i64 c.step)
  c4 : w.cell? ⟨b, 4, none⟩ = some (.int .i64 c.den)
  c5 : w.cell? ⟨b, 5, none⟩ = some (.int .i64 c.slack)
theorem ConBox.later {w w' : World} {b : Nat} {c : Con} {ha : Option Addr} {hc B : Nat} (h : ConBox w b c ha hc) (hb : Below B w w') (hB : b < B) : ConBox w' b c ha hc := by
  have e : ∀ o, w'.cell? ⟨b, o, none⟩ = w.cell? ⟨b, o, none⟩ := fun o => hb.cell (p := ⟨b, o, none⟩) hB
  exact ⟨by rw [e]; exact h.c0, by rw [e]; exact h.c1, by rw [e]; exact h.c2, by rw [e]; exact h.c3, by rw [e]; exact h.c4, by rw [e]; exact h.c5⟩

theorem grown_of_below {w w' : World} {row : Option Nat} (h : Below w.heap.size w w') : w.grownBy w' row := ⟨h.os, h.tape, h.output, h.size, fun k hk _ => h.block k hk⟩
theorem grown_set {w w' : World} {pb : Nat} (h : w.grownBy w' (some pb)) {a : Addr} (ha : a.block = pb ∨ w.heap.size ≤ a.block) (u : Value) : w.grownBy (w'.setCell a u) (some pb) :=
  ⟨h.os, h.tape, h.output, by simpa [World.setCell] using h.size, fun k hk hne => by
    rw [Below.heap_setCell _ _ _ _ (by rintro rfl; rcases ha with rfl | h'; exact hne rfl; omega)]; exact h.block k hk hne⟩

set_option maxRecDepth 100000 in
set_option maxHeartbeats 1000000 in
theorem places1_any (c : Con) (hg : ConGood c) (ha : Option Addr) (hc pb cb : Nat) (p : Int) (w : World) (hp0 : 0 ≤ p) (hp1 : p < cyc c) (hpb : pb < w.heap.size) (hcb : cb < w.heap.size) (_hne : cb ≠ pb)
    (hbox : ConBox w cb c ha hc) (hcell : w.cell? ⟨pb, 0, none⟩ = some (.int .i64 p)) (hfr : w.frozen? ⟨pb, 0, none⟩ = false) :
    Calls Try.prog 112 #[.pointer (some ⟨pb, 0, none⟩), .pointer (some ⟨cb, 0, none⟩)] w
      fun e w' => e = .returned (.agg #[.int .i64 (p / c.den), .int .i64 (p % c.den)]) ∧ w.grownBy w' (some pb) ∧ w'.cell? ⟨pb, 0, none⟩ = some (.int .i64 ((p + c.step) % cyc c)) ∧ w'.frozen? ⟨pb, 0, none⟩ = false := by
  have hcy := cyc_bd hg
  obtain ⟨nm, hs, off, step, den, slack⟩ := c
  obtain ⟨g1, g2, gh, g3, g4, g5, g6, g7, g8, g9, g10⟩ := hg
  obtain ⟨c0, c1, c2, c3, c4, c5⟩ := hbox
  simp only [cyc] at *
  clear gh
  obtain ⟨hcy1, hcy2⟩ := hcy
  have hd0 : ¬ den = 0 := by omega
  have hcy0 : ¬ den * (hs.length : Int) = 0 := by omega
  generalize hcyc : den * (hs.length : Int) = cy at *
  go_enter Try.func112, Try.ntmps112
  go_wp2_with fail
  generalize hW1 : World.alloc w _ = W1
  have B1 : Below w.heap.size w W1 := by rw [← hW1]; exact (Below.refl _ _).alloc (Nat.le_refl _) _
  have S1 : w.heap.size < W1.heap.size := by rw [← hW1]; simp
  have r0 : W1.cell? ⟨w.heap.size, 0, none⟩ = some (.int .i64 0) := by rw [← hW1]; simp [go_sem]
  have r1 : W1.cell? ⟨w.heap.size, 1, none⟩ = some (.int .i64 0) := by rw [← hW1]; simp [go_sem]
  have z0 : W1.frozen? ⟨w.heap.size, 0, none⟩ = false := by rw [← hW1]; simp [go_sem]
  have z1 : W1.frozen? ⟨w.heap.size, 1, none⟩ = false := by rw [← hW1]; simp [go_sem]
  clear hW1
  have e0 := (B1.cell (p := ⟨cb, 0, none⟩) hcb).trans c0
  have e1 := (B1.cell (p := ⟨cb, 1, none⟩) hcb).trans c1
  have e2 := (B1.cell (p := ⟨cb, 2, none⟩) hcb).trans c2
  have e3 := (B1.cell (p := ⟨cb, 3, none⟩) hcb).trans c3
  have e4 := (B1.cell (p := ⟨cb, 4, none⟩) hcb).trans c4
  have e5 := (B1.cell (p := ⟨cb, 5, none⟩) hcb).trans c5
  have ep := (B1.cell (p := ⟨pb, 0, none⟩) hpb).trans hcell
  have ef := (B1.frozen (p := ⟨pb, 0, none⟩) hpb).trans hfr
  clear c0 c1 c2 c3 c4 c5 hcell hfr
  have hcb1 : cb < W1.heap.size := by omega
  have hpb1 : pb < W1.heap.size := by omega
  have hn1 : cb ≠ W1.heap.size := by omega
  have hn2 : pb ≠ W1.heap.size := by omega
  go_region
  go_wp2_with fail
  generalize hW2 : World.drew (World.alloc W1 _) = W2
  have B2 : Below W1.heap.size W1 W2 := by rw [← hW2]; exact ((Below.refl _ _).alloc (Nat.le_refl _) _).drew
  have S2 : W1.heap.size < W2.heap.size := by rw [← hW2]; simp
  have h0 : W2.cell? ⟨W1.heap.size, 0, none⟩ = some (.int .i64 (p / den)) := by rw [← hW2]; simp [go_sem]
  have h1 : W2.cell? ⟨W1.heap.size, 1, none⟩ = some (.int .i64 (p % den)) := by rw [← hW2]; simp [go_sem]
  clear hW2
  have g0 : ∀ X : Later W2.heap.size W2, X.wd.cell? ⟨cb, 0, none⟩ = some (.string nm) := fun X => (X.below.cell (p := ⟨cb, 0, none⟩) (by simp; omega)).trans ((B2.cell (p := ⟨cb, 0, none⟩) (by simp; omega)).trans e0)
  have g1' : ∀ X : Later W2.heap.size W2, X.wd.cell? ⟨cb, 1, none⟩ = some (.slice ha hs.length hc) := fun X => (X.below.cell (p := ⟨cb, 1, none⟩) (by simp; omega)).trans ((B2.cell (p := ⟨cb, 1, none⟩) (by simp; omega)).trans e1)
  have g2' : ∀ X : Later W2.heap.size W2, X.wd.cell? ⟨cb, 2, none⟩ = some (.int .i64 off) := fun X => (X.below.cell (p := ⟨cb, 2, none⟩) (by simp; omega)).trans ((B2.cell (p := ⟨cb, 2, none⟩) (by simp; omega)).trans e2)
  have g3' : ∀ X : Later W2.heap.size W2, X.wd.cell? ⟨cb, 3, none⟩ = some (.int .i64 step) := fun X => (X.below.cell (p := ⟨cb, 3, none⟩) (by simp; omega)).trans ((B2.cell (p := ⟨cb, 3, none⟩) (by simp; omega)).trans e3)
  have g4' : ∀ X : Later W2.heap.size W2, X.wd.cell? ⟨cb, 4, none⟩ = some (.int .i64 den) := fun X => (X.below.cell (p := ⟨cb, 4, none⟩) (by simp; omega)).trans ((B2.cell (p := ⟨cb, 4, none⟩) (by simp; omega)).trans e4)
  have g5' : ∀ X : Later W2.heap.size W2, X.wd.cell? ⟨cb, 5, none⟩ = some (.int .i64 slack) := fun X => (X.below.cell (p := ⟨cb, 5, none⟩) (by simp; omega)).trans ((B2.cell (p := ⟨cb, 5, none⟩) (by simp; omega)).trans e5)
  have gp : ∀ X : Later W2.heap.size W2, X.wd.cell? ⟨pb, 0, none⟩ = some (.int .i64 p) := fun X => (X.below.cell (p := ⟨pb, 0, none⟩) (by simp; omega)).trans ((B2.cell (p := ⟨pb, 0, none⟩) (by simp; omega)).trans ep)
  have hsum : 0 ≤ p + step := by omega
  refine wp_region_grow_tail W2.heap.size 7 (by kernel_rfl) (by kernel_rfl) ?_
  simp only [List.take_succ_cons, List.take_zero, List.drop_succ_cons, List.drop_zero]
  repeat (go_big_quiet_step ((go_at_call 91; exact later_grow (Nat.le_refl _) (cycle_any _ _ _ _ _ _ _ _ _ (by omega) (by omega) (by omega)))))
  refine wpQuiet_nil ?_
  rintro wx ⟨⟨_, hbx⟩, rfl⟩
  have k0 := (hbx.cell (p := ⟨W1.heap.size, 0, none⟩) S2).trans h0
  have k1 := (hbx.cell (p := ⟨W1.heap.size, 1, none⟩) S2).trans h1
  have kp : wx.cell? ⟨pb, 0, none⟩ = some (.int .i64 p) := gp ⟨wx, hbx⟩
  have kf : wx.frozen? ⟨pb, 0, none⟩ = false := (hbx.frozen (p := ⟨pb, 0, none⟩) (by simp; omega)).trans ((B2.frozen (p := ⟨pb, 0, none⟩) (by simp; omega)).trans ef)
  have q0 : wx.cell? ⟨w.heap.size, 0, none⟩ = some (.int .i64 0) := (hbx.cell (p := ⟨w.heap.size, 0, none⟩) (by simp; omega)).trans ((B2.cell (p := ⟨w.heap.size, 0, none⟩) S1).trans r0)
  have q1 : wx.cell? ⟨w.heap.size, 1, none⟩ = some (.int .i64 0) := (hbx.cell (p := ⟨w.heap.size, 1, none⟩) (by simp; omega)).trans ((B2.cell (p := ⟨w.heap.size, 1, none⟩) S1).trans r1)
  have y0 : wx.frozen? ⟨w.heap.size, 0, none⟩ = false := (hbx.frozen (p := ⟨w.heap.size, 0, none⟩) (by simp; omega)).trans ((B2.frozen (p := ⟨w.heap.size, 0, none⟩) S1).trans z0)
  have y1 : wx.frozen? ⟨w.heap.size, 1, none⟩ = false := (hbx.frozen (p := ⟨w.heap.size, 1, none⟩) (by simp; omega)).trans ((B2.frozen (p := ⟨w.heap.size, 1, none⟩) S1).trans z1)
  have hall : Below w.heap.size w wx := B1.trans ((B2.mono (by omega)).trans (hbx.mono (by omega)))
  have hx := hbx.size
  clear g0 g1' g2' g3' g4' g5' gp e0 e1 e2 e3 e4 e5 ep ef r0 r1 z0 z1 h0 h1
  have m1 : pb ≠ W1.heap.size := by omega
  have m2 : pb ≠ w.heap.size := by omega
  have m3 : w.heap.size ≠ pb := by omega
  have m4 : W1.heap.size ≠ pb := by omega
  have m5 : w.heap.size ≠ W1.heap.size := by omega
  go_wp2_with fail
  refine bodyPost_ret (v := .agg #[.int .i64 (p / den), .int .i64 (p % den)]) (by simp [results, Try.results112, go_sem, *]) rfl ⟨rfl, ?_, ?_, ?_⟩
  · exact grown_set (grown_set (grown_set (grown_of_below hall) (.inl rfl) _) (.inr (Nat.le_refl _)) _) (.inr (Nat.le_refl _)) _
  · simp [go_sem, *]
  · simpa using kf

theorem callFunc_places1 (args : Array Value) (w : World) : (callFunc 112 args).run Try.prog w = .ok (.enter 112 args) w := by simp [go_sem]

/-- Where a constituent is at a number that need be no tick. -/
def placeQ (c : Con) (t : Int) : Int := (IntKind.i64.wrap (c.off + IntKind.i64.wrap (c.step * t))).tmod (cyc c)
set_option maxRecDepth 100000 in
set_option maxHeartbeats 1000000 in
theorem places_any (c : Con) (hg : ConGood c) (ha : Option Addr) (hc : Nat) (t : Int) (w : World) :
    Calls Try.prog 95 #[.agg #[.string c.name, .slice ha c.hs.length hc, .int .i64 c.off, .int .i64 c.step, .int .i64 c.den, .int .i64 c.slack], .int .i64 t] w
      fun e w' => ∃ pb cb, e = .returned (.func (.func 112) #[] #[.pointer (some ⟨pb, 0, none⟩), .pointer (some ⟨cb, 0, none⟩)]) ∧ Below w.heap.size w w' ∧ (w.heap.size ≤ pb ∧ pb < w'.heap.size) ∧ (w.heap.size ≤ cb ∧ cb < w'.heap.size) ∧ cb ≠ pb ∧
        ConBox w' cb c ha hc ∧ w'.cell? ⟨pb, 0, none⟩ = some (.int .i64 (placeQ c t)) ∧ w'.frozen? ⟨pb, 0, none⟩ = false := by
  have hcy := cyc_bd hg
  obtain ⟨nm, hs, off, step, den, slack⟩ := c
  obtain ⟨g1, g2, gh, g3, g4, g5, g6, g7, g8, g9, g10⟩ := hg
  simp only [cyc] at *
  clear gh
  obtain ⟨hcy1, hcy2⟩ := hcy
  have hcy0 : ¬ den * (hs.length : Int) = 0 := by omega
  generalize hcyc : den * (hs.length : Int) = cy at *
  have hQ : placeQ ⟨nm, hs, off, step, den, slack⟩ t = (IntKind.i64.wrap (off + IntKind.i64.wrap (step * t))).tmod cy := by simp only [placeQ, cyc]; rw [hcyc]
  have HQ := hid hQ; clear hQ
  go_enter Try.func95, Try.ntmps95
  go_wp2_with fail
  generalize hW1 : World.alloc w _ = W1
  have B1 : Below w.heap.size w W1 := by rw [← hW1]; exact (Below.refl _ _).alloc (Nat.le_refl _) _
  have S1 : w.heap.size < W1.heap.size := by rw [← hW1]; simp
  have c0 : W1.cell? ⟨w.heap.size, 0, none⟩ = some (.string nm) := by rw [← hW1]; simp [go_sem]
  have c1 : W1.cell? ⟨w.heap.size, 1, none⟩ = some (.slice ha hs.length hc) := by rw [← hW1]; simp [go_sem]
  have c2 : W1.cell? ⟨w.heap.size, 2, none⟩ = some (.int .i64 off) := by rw [← hW1]; simp [go_sem]
  have c3 : W1.cell? ⟨w.heap.size, 3, none⟩ = some (.int .i64 step) := by rw [← hW1]; simp [go_sem]
  have c4 : W1.cell? ⟨w.heap.size, 4, none⟩ = some (.int .i64 den) := by rw [← hW1]; simp [go_sem]
  have c5 : W1.cell? ⟨w.heap.size, 5, none⟩ = some (.int .i64 slack) := by rw [← hW1]; simp [go_sem]
  clear hW1
  have hB : w.heap.size + 1 ≤ W1.heap.size := S1
  have KS : Hid (∀ w', Below (w.heap.size + 1) W1 w' → Below (w.heap.size + 1) W1 w' ∧ (w'.cell? ⟨w.heap.size, 0, none⟩ = some (.string nm) ∧ w'.cell? ⟨w.heap.size, 1, none⟩ = some (.slice ha hs.length hc) ∧ w'.cell? ⟨w.heap.size, 2, none⟩ = some (.int .i64 off) ∧ w'.cell? ⟨w.heap.size, 3, none⟩ = some (.int .i64 step) ∧ w'.cell? ⟨w.heap.size, 4, none⟩ = some (.int .i64 den) ∧ w'.cell? ⟨w.heap.size, 5, none⟩ = some (.int .i64 slack))) := hid fun w' h =>
    have e : ∀ o, w'.cell? ⟨w.heap.size, o, none⟩ = W1.cell? ⟨w.heap.size, o, none⟩ := fun o => h.cell (p := ⟨w.heap.size, o, none⟩) (by simp)
    ⟨h, (e _).trans c0, (e _).trans c1, (e _).trans c2, (e _).trans c3, (e _).trans c4, (e _).trans c5⟩
  clear c0 c1 c2 c3 c4 c5
  go_region_held3 (fun w' => Below (w.heap.size + 1) W1 w' ∧ (w'.cell? ⟨w.heap.size, 0, none⟩ = some (.string nm) ∧ w'.cell? ⟨w.heap.size, 1, none⟩ = some (.slice ha hs.length hc) ∧ w'.cell? ⟨w.heap.size, 2, none⟩ = some (.int .i64 off) ∧ w'.cell? ⟨w.heap.size, 3, none⟩ = some (.int .i64 step) ∧ w'.cell? ⟨w.heap.size, 4, none⟩ = some (.int .i64 den) ∧ w'.cell? ⟨w.heap.size, 5, none⟩ = some (.int .i64 slack)))
    (first | assumption | exact KS.out _ (Below.drew (Below.refl _ _)) | exact KS.out _ (keepG (by assumption) (by assumption) hB) | exact KS.out _ (keepG ((Below.refl _ _).alloc (Nat.le_refl _) _) (by assumption) hB) | exact KS.out _ (keepH (by assumption) hB _) | exact KS.out _ (keepH2 hB _) | exact KS.out _ (keepSet (by assumption) hB))
    (first | (go_at_call 91; refine (cycle_any _ _ _ _ _ _ _ _ _ g3 g4 g2).mono ?_; rintro e w' ⟨rfl, hb⟩; obtain ⟨hbc, hbf⟩ := bcell hb))
  all_goals
    generalize (IntKind.i64.wrap (off + IntKind.i64.wrap (step * t))).tmod cy = q at *
    obtain ⟨hfb, c0, c1, c2, c3, c4, c5⟩ := (by assumption : Below (w.heap.size + 1) W1 _ ∧ (World.cell? _ ⟨w.heap.size, 0, none⟩ = some (.string nm) ∧ _))
    have hfs := hfb.size
    have hfb2 : Below w.heap.size w _ := B1.trans (hfb.mono (by omega))
  · have hs1 := Below.size (by assumption : Below W1.drew.heap.size W1.drew _)
    simp only [World.size_drew] at hs1
    go_wp2_with fail
    go_ret
    exact ⟨_, w.heap.size, rfl, hfb2, ⟨by omega, by simp⟩, ⟨Nat.le_refl _, by omega⟩, by omega, ⟨c0, c1, c2, c3, c4, c5⟩, by rw [HQ.out]; simp [go_sem], by simp [go_sem]⟩
  · have hs1 := Below.size (by assumption : Below (World.alloc W1.drew _).heap.size _ _)
    simp only [World.size_alloc, World.size_drew] at hs1
    go_wp2_with fail
    go_ret
    refine ⟨_, w.heap.size, rfl, hfb2, ⟨by omega, by simp [World.setCell]; omega⟩, ⟨Nat.le_refl _, by omega⟩, by omega, ⟨c0, c1, c2, c3, c4, c5⟩, ?_, ?_⟩
    · rw [HQ.out, World.cell?_setCell_same' _ _ _ (by simp [go_sem, *])]
    · simp [go_sem, *]
end Go.Proofs.Ytblneiegekdnjaa
