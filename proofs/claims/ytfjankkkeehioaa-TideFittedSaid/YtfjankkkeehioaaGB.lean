/- Tide, part GB: the readings of a truth: made. -/
import Derived.Test.YtfjankkkeehioaaGA
import Derived.Test.YtfjankkkeehioaaTSe
import Derived.Test.YtfjankkkeehioaaZQ
import Derived.Lib.MinMax
import Derived.Deep.DeepCutAuto
import Derived.RangeFuncBox
set_option linter.all false
namespace Go.Proofs.Ytfjankkkeehioaa
open Go.RowKit

theorem A.infoInt : (Try.prog.info? 3).map (fun i => (i.zero, i.size, i.bytes)) = some (some (.int .i64 0), 1, 8) := by kernel_rfl
theorem A.infoRdg : (Try.prog.info? 114).map (fun i => (i.zero, i.size, i.bytes)) = some (some (.agg #[.int .i64 0, .int .i64 0]), 2, 16) := by kernel_rfl
/-- A truth's six cells. -/
structure TruBox (w : World) (b : Nat) (x : Tru) (q : TPos) : Prop where
  c0 : w.cell? ⟨b, 0, none⟩ = some (.int .i64 x.from_)
  c1 : w.cell? ⟨b, 1, none⟩ = some (.int .i64 x.level)
  c2 : w.cell? ⟨b, 2, none⟩ = some (.slice q.ma x.mv.length q.mc)
  c3 : w.cell? ⟨b, 3, none⟩ = some (.slice q.ga x.gp.length q.gc)
  c4 : w.cell? ⟨b, 4, none⟩ = some (.slice q.sa x.sh.length q.sc)
  c5 : w.cell? ⟨b, 5, none⟩ = some (.slice q.ea x.er.length q.ec)
theorem TruBox.later {w w' : World} {b B : Nat} {x : Tru} {q : TPos} (h : TruBox w b x q) (hb : Below B w w') (hB : b < B) : TruBox w' b x q :=
  have e : ∀ o, w'.cell? ⟨b, o, none⟩ = w.cell? ⟨b, o, none⟩ := fun o => hb.cell (p := ⟨b, o, none⟩) hB
  ⟨(e _).trans h.c0, (e _).trans h.c1, (e _).trans h.c2, (e _).trans h.c3, (e _).trans h.c4, (e _).trans h.c5⟩
theorem ownsRow_lit {w : World} {base : Nat} {T : TypeId} (x : Value) (hb : base ≤ w.heap.size) : (w.alloc (.cells #[x] T)).ownsRow base T 1 (.slice (some ⟨w.heap.size, 0, none⟩) 1 1) 1 [x] :=
  ⟨rfl, .inr ⟨w.heap.size, 1, #[x], rfl, hb, by show (w.heap.push _)[w.heap.size]? = _; simp, Nat.le_refl _, by unfold maxLen; omega, rfl, rfl⟩⟩
def rdgVals (l : List Rdg) : List Value := l.flatMap fun r => [Value.int .i64 r.tick, Value.int .i64 r.value]
theorem rdgVals_snoc (l : List Rdg) (r : Rdg) : rdgVals (l ++ [r]) = rdgVals l ++ [Value.int .i64 r.tick, Value.int .i64 r.value] := by simp [rdgVals]
theorem rdgVals_get : ∀ (l : List Rdg) (i : Nat) (h : i < l.length), (rdgVals l)[i * 2]? = some (.int .i64 l[i].tick) ∧ (rdgVals l)[i * 2 + 1]? = some (.int .i64 l[i].value)
  | [], i, h => by simp at h
  | s :: r, 0, h => by simp [rdgVals]
  | s :: r, i + 1, h => by
    have := rdgVals_get r i (by simpa using h)
    have e : rdgVals (s :: r) = Value.int .i64 s.tick :: Value.int .i64 s.value :: rdgVals r := by simp [rdgVals]
    rw [e, show (i + 1) * 2 = i * 2 + 1 + 1 by omega]
    simpa using this
theorem rdgsAt_of_own {w : World} {base : Nat} {T : TypeId} {v : Value} {l : List Rdg} (h : w.ownsRow base T 2 v l.length (rdgVals l)) :
    ∃ a cap, v = .slice a l.length cap ∧ l.length ≤ cap ∧ RowsAt RdgAt 2 w a l := by
  rcases h.2 with ⟨rfl, hn⟩ | ⟨g, cap, cur, rfl, hb, hg, hcap, _⟩
  · exact ⟨none, 0, by rw [hn], by omega, .inl (List.length_eq_zero_iff.1 hn)⟩
  · refine ⟨_, cap, rfl, hcap, .inr ⟨g, 0, rfl, (Array.getElem?_eq_some_iff.1 hg).1, fun i hi => ?_⟩⟩
    have e := rdgVals_get l i hi
    have c1 := h.cells (g := g) rfl _ _ e.1
    have c2 := h.cells (g := g) rfl _ _ e.2
    rw [addr_add0] at c1 c2
    exact ⟨by simpa using c1, by simpa using c2⟩

/-- What made's memory holds while it gathers readings. -/
structure MInv (b gg : Nat) (g : Gau) (p : GPos) (x : Tru) (q : TPos) (w wr : World) (L : List Int) : Prop where
  g0 : wr.cell? ⟨b, 0, none⟩ = some (.string g.name)
  g1 : wr.cell? ⟨b, 1, none⟩ = some (.int .i64 g.err)
  g2 : wr.cell? ⟨b, 2, none⟩ = some (.int .i64 g.rate)
  g3 : wr.cell? ⟨b, 3, none⟩ = some (.slice p.da g.ds.length p.dc)
  gf : ∀ o, wr.frozen? ⟨b, o, none⟩ = false
  x : TruBox wr (b + 1) x q
  r0 : wr.cell? ⟨b + 2, 0, none⟩ = some (.string ⟨#[]⟩)
  r1 : wr.cell? ⟨b + 2, 1, none⟩ = some (.int .i64 0)
  r2 : wr.cell? ⟨b + 2, 2, none⟩ = some (.int .i64 0)
  r3 : wr.cell? ⟨b + 2, 3, none⟩ = some (.slice none 0 0)
  r4 : wr.cell? ⟨b + 2, 4, none⟩ = some (.slice none 0 0)
  rf : ∀ o, wr.frozen? ⟨b + 2, o, none⟩ = false
  row : ∀ i (h : i < L.length), wr.cell? ⟨gg, i, none⟩ = some (.int .i64 L[i])
  low : Below b w wr
theorem MInv.later {b gg : Nat} {g : Gau} {p : GPos} {x : Tru} {q : TPos} {w wr w' : World} {L : List Int} {B : Nat} (h : MInv b gg g p x q w wr L) (hb : Below B wr w') (h1 : b + 3 ≤ B) (h2 : gg < B) : MInv b gg g p x q w w' L :=
  have e : ∀ a o, a < B → w'.cell? ⟨a, o, none⟩ = wr.cell? ⟨a, o, none⟩ := fun a o ha => hb.cell (p := ⟨a, o, none⟩) ha
  have f : ∀ a o, a < B → w'.frozen? ⟨a, o, none⟩ = wr.frozen? ⟨a, o, none⟩ := fun a o ha => hb.frozen (p := ⟨a, o, none⟩) ha
  ⟨(e _ _ (by omega)).trans h.g0, (e _ _ (by omega)).trans h.g1, (e _ _ (by omega)).trans h.g2, (e _ _ (by omega)).trans h.g3, fun o => (f _ _ (by omega)).trans (h.gf o), h.x.later hb (by omega),
    (e _ _ (by omega)).trans h.r0, (e _ _ (by omega)).trans h.r1, (e _ _ (by omega)).trans h.r2, (e _ _ (by omega)).trans h.r3, (e _ _ (by omega)).trans h.r4, fun o => (f _ _ (by omega)).trans (h.rf o),
    fun i hi => (e _ _ h2).trans (h.row i hi), h.low.trans (hb.mono (by omega))⟩
theorem MInv.set {b gg : Nat} {g : Gau} {p : GPos} {x : Tru} {q : TPos} {w wr : World} {L : List Int} (h : MInv b gg g p x q w wr L) (hg : b < gg) (v : Value) : MInv b gg g p x q w (wr.setCell ⟨b, 4, none⟩ v) L :=
  have e : ∀ a o, (a ≠ b ∨ o ≠ 4) → (wr.setCell ⟨b, 4, none⟩ v).cell? ⟨a, o, none⟩ = wr.cell? ⟨a, o, none⟩ := fun a o ha => World.cell?_setCell_other _ _ _ _ (by intro e; injection e with e1 e2; omega)
  have f : ∀ a o, (wr.setCell ⟨b, 4, none⟩ v).frozen? ⟨a, o, none⟩ = wr.frozen? ⟨a, o, none⟩ := fun a o => by rw [World.frozen?_setCell]
  ⟨(e _ _ (by omega)).trans h.g0, (e _ _ (by omega)).trans h.g1, (e _ _ (by omega)).trans h.g2, (e _ _ (by omega)).trans h.g3, fun o => (f _ _).trans (h.gf o),
    ⟨(e _ _ (by omega)).trans h.x.c0, (e _ _ (by omega)).trans h.x.c1, (e _ _ (by omega)).trans h.x.c2, (e _ _ (by omega)).trans h.x.c3, (e _ _ (by omega)).trans h.x.c4, (e _ _ (by omega)).trans h.x.c5⟩,
    (e _ _ (by omega)).trans h.r0, (e _ _ (by omega)).trans h.r1, (e _ _ (by omega)).trans h.r2, (e _ _ (by omega)).trans h.r3, (e _ _ (by omega)).trans h.r4, fun o => (f _ _).trans (h.rf o),
    fun i hi => (e _ _ (by omega)).trans (h.row i hi), h.low.setCell (p := ⟨b, 4, none⟩) (Nat.le_refl _) _⟩

/-- What made returns. -/
def MadeR (g : Gau) (x : Tru) (w : World) (e : Ending) (w' : World) : Prop :=
  ∃ (a : Option Addr) (cap : Nat) (L : List Int) (p : GPos) (rs : List Rdg), e = .returned (.tuple #[.slice a L.length cap, .agg #[.string g.name, .int .i64 g.err, .int .i64 g.rate, .slice p.da g.ds.length p.dc, .slice p.ra rs.length p.rc], .bool true]) ∧ IntsAt w' a L ∧ GauOk w' p { g with rs := rs } ∧
    L.length = x.mv.length + 1 ∧ Chain g.rate L ∧ (∀ r ∈ rs, Came g x.from_ x.sh L r) ∧ Below w.heap.size w w'

theorem valA {lp lo hi sv : Int} (h1 : -20000 ≤ lp) (h2 : lp ≤ 20000) (h3 : -5000 ≤ lo) (h4 : lo ≤ hi) (h5 : hi ≤ 5000) (h6 : 0 ≤ sv) (h7 : sv ≤ 255) :
    wrap64 (wrap64 (lp + lo) + wrap64 ((wrap64 (wrap64 (hi - lo) * sv)).tdiv 255)) = lp + (lo + ((hi - lo) * sv).tdiv 255) := by
  rw [wrap_id (n := lp + lo) (by omega) (by omega), wrap_id (n := hi - lo) (by omega) (by omega)]
  have r0 : 0 ≤ hi - lo := by omega
  have a0 : 0 ≤ (hi - lo) * sv := Int.mul_nonneg r0 h6
  have a1 : (hi - lo) * sv ≤ (hi - lo) * 255 := Int.mul_le_mul_of_nonneg_left h7 r0
  have := part_bd r0 a0 (by omega)
  generalize (hi - lo) * sv = y at *
  rw [wrap_id (n := y) (by omega) (by omega), wrap_id (n := y.tdiv 255) (by omega) (by omega), wrap_id (by omega) (by omega)]
  omega
theorem valB {v e m : Int} (h1 : -40000 ≤ v) (h2 : v ≤ 40000) (h3 : 0 ≤ e) (h4 : e ≤ 5000) (h5 : -128 ≤ m) (h6 : m ≤ 127) :
    ∃ er : Int, -e ≤ er ∧ er ≤ e ∧ wrap64 (v + wrap64 ((wrap64 (e * max (wrap64 m) (-127))).tdiv 127)) = v + er := by
  rw [wrap_id (n := m) (by omega) (by omega)]
  obtain ⟨a1, a2⟩ := times_bd h3 h5 h6
  rw [wrap_id (n := e * max m (-127)) (by omega) (by omega)]
  have b := share_bd h3 a1 a2
  generalize (e * max m (-127)).tdiv 127 = d at *
  rw [wrap_id (n := d) (by omega) (by omega), wrap_id (by omega) (by omega)]
  exact ⟨d, b.1, b.2, rfl⟩
theorem i64_wrap (n : Int) : I64 (wrap64 n) := i64_of_wf (wrap64_wf n)
theorem shift_sane {g : Gau} (h : Sane g) {sh : List Int} (hs : ∀ s ∈ sh, 0 ≤ s ∧ s ≤ 255) (t : Int) (k : Nat) : -5000 ≤ shiftOf (datumOf g t) sh k ∧ shiftOf (datumOf g t) sh k ≤ 5000 := by
  have hl := h.dlen
  have h1 : dIdx g.ds t g.ds.length < g.ds.length := by rcases dIdx_lt g.ds t g.ds.length with h | h <;> omega
  have e : datumOf g t = g.ds[dIdx g.ds t g.ds.length] := by simp [datumOf, List.getD, h1]
  have := h.dat _ h1
  rw [e]
  have := shiftOf_bd hs this.2.1 k
  omega

theorem made_end {b B gg cp : Nat} {g : Gau} {p : GPos} {x : Tru} {q : TPos} {w wr V : World} {L : List Int} {T : TypeId} {ra : Option Addr} {rcp : Nat} {rs : List Rdg} (hM : MInv b gg g p x q w wr L)
    (hown : wr.ownsRow B T 2 (.slice ra rs.length rcp) rs.length (rdgVals rs)) (hrl : rs.length ≤ rcp) (hrows : RowsAt RdgAt 2 wr ra rs) (hB : b + 3 ≤ B) (hgg : b + 3 ≤ gg) (hgl : gg < wr.heap.size)
    (hE : ∀ a o, a ≠ b + 2 → V.cell? ⟨a, o, none⟩ = wr.cell? ⟨a, o, none⟩) (hs : V.heap.size = wr.heap.size) (hb : b = w.heap.size) (hlow : Below b w V) (hok : GauOk w p g) (hch : Chain g.rate L) (hLl : L.length = x.mv.length + 1)
    (hcame : ∀ r ∈ rs, Came g x.from_ x.sh L r ∧ I64 r.tick ∧ I64 r.value) (hlen : rs.length ≤ 60) :
    MadeR g x w (.returned (.tuple #[.slice (some ⟨gg, 0, none⟩) (x.mv.length + 1) cp, .agg #[.string g.name, .int .i64 g.err, .int .i64 g.rate, .slice p.da g.ds.length p.dc, .slice ra rs.length rcp], .bool true])) V := by
  subst hb
  have hk := hok.later hlow (Nat.le_refl _)
  refine ⟨some ⟨gg, 0, none⟩, cp, L, { p with ra := ra, rc := rcp }, rs, by rw [hLl], .inr ⟨gg, 0, rfl, by omega, fun i hi => ?_⟩, ⟨?_, hk.ds, ?_⟩, hLl, hch, fun r hr => (hcame r hr).1, hlow⟩
  · rw [Nat.zero_add, hE _ _ (by omega)]; exact hM.row i hi
  · exact ⟨hk.wf.name, hk.wf.err, hk.wf.rate, hk.wf.dlen, hk.wf.dcap, hrl, by simp only; omega, hk.wf.ds, fun r hr => (hcame r hr).2⟩
  · rcases hrows with h0 | ⟨rb, ro, hra, hrs, hc⟩
    · exact .inl h0
    · refine .inr ⟨rb, ro, hra, by omega, fun i hi => ?_⟩
      have hlt := (hown.lt rb (by rw [hra]; rfl)).1
      exact ⟨(hE _ _ (by omega)).trans (hc i hi).c0, (hE _ _ (by omega)).trans (hc i hi).c1⟩

theorem set_out {W V : World} {b : Nat} {j : Nat} {v : Value} (h : V = W.setCell ⟨b, j, none⟩ v) :
    (∀ i, i ≠ j → V.cell? ⟨b, i, none⟩ = W.cell? ⟨b, i, none⟩) ∧ (∀ a o, a ≠ b → V.cell? ⟨a, o, none⟩ = W.cell? ⟨a, o, none⟩) ∧ (∀ u, W.cell? ⟨b, j, none⟩ = some u → V.cell? ⟨b, j, none⟩ = some v) ∧ V.heap.size = W.heap.size ∧ (∀ B w, B ≤ b → Below B w W → Below B w V) := by
  subst h
  exact ⟨fun i hi => World.cell?_setCell_other _ _ _ _ (by intro e; injection e with e1 e2; exact hi e2.symm), fun a o ha => World.cell?_setCell_other _ _ _ _ (by intro e; injection e with e1 e2; exact ha e1.symm),
    fun u hu => World.cell?_setCell_same' _ _ _ (by rw [hu]; rfl), by simp, fun B w hB h => h.setCell (p := ⟨b, j, none⟩) hB _⟩
theorem five_sets {W : World} {b : Nat} {u0 u1 u2 u3 u4 v0 v1 v2 v3 v4 : Value} (r0 : W.cell? ⟨b, 0, none⟩ = some u0) (r1 : W.cell? ⟨b, 1, none⟩ = some u1) (r2 : W.cell? ⟨b, 2, none⟩ = some u2) (r3 : W.cell? ⟨b, 3, none⟩ = some u3) (r4 : W.cell? ⟨b, 4, none⟩ = some u4) {V : World}
    (hV : (((((W.setCell ⟨b, 0, none⟩ v0).setCell ⟨b, 1, none⟩ v1).setCell ⟨b, 2, none⟩ v2).setCell ⟨b, 3, none⟩ v3).setCell ⟨b, 4, none⟩ v4).drew = V) :
    V.cell? ⟨b, 0, none⟩ = some v0 ∧ V.cell? ⟨b, 1, none⟩ = some v1 ∧ V.cell? ⟨b, 2, none⟩ = some v2 ∧ V.cell? ⟨b, 3, none⟩ = some v3 ∧ V.cell? ⟨b, 4, none⟩ = some v4 ∧
    (∀ a o, a ≠ b → V.cell? ⟨a, o, none⟩ = W.cell? ⟨a, o, none⟩) ∧ V.heap.size = W.heap.size ∧ (∀ B w, B ≤ b → Below B w W → Below B w V) := by
  obtain ⟨W1, h1⟩ : ∃ X, X = W.setCell ⟨b, 0, none⟩ v0 := ⟨_, rfl⟩
  rw [← h1] at hV
  obtain ⟨W2, h2⟩ : ∃ X, X = W1.setCell ⟨b, 1, none⟩ v1 := ⟨_, rfl⟩
  rw [← h2] at hV
  obtain ⟨W3, h3⟩ : ∃ X, X = W2.setCell ⟨b, 2, none⟩ v2 := ⟨_, rfl⟩
  rw [← h3] at hV
  obtain ⟨W4, h4⟩ : ∃ X, X = W3.setCell ⟨b, 3, none⟩ v3 := ⟨_, rfl⟩
  rw [← h4] at hV
  obtain ⟨W5, h5⟩ : ∃ X, X = W4.setCell ⟨b, 4, none⟩ v4 := ⟨_, rfl⟩
  rw [← h5] at hV
  obtain ⟨a1, b1, c1, d1, e1⟩ := set_out h1
  obtain ⟨a2, b2, c2, d2, e2⟩ := set_out h2
  obtain ⟨a3, b3, c3, d3, e3⟩ := set_out h3
  obtain ⟨a4, b4, c4, d4, e4⟩ := set_out h4
  obtain ⟨a5, b5, c5, d5, e5⟩ := set_out h5
  have k0 := c1 _ r0
  have k1 := c2 _ ((a1 1 (by omega)).trans r1)
  have k2 := c3 _ ((a2 2 (by omega)).trans ((a1 2 (by omega)).trans r2))
  have k3 := c4 _ ((a3 3 (by omega)).trans ((a2 3 (by omega)).trans ((a1 3 (by omega)).trans r3)))
  have k4 := c5 _ ((a4 4 (by omega)).trans ((a3 4 (by omega)).trans ((a2 4 (by omega)).trans ((a1 4 (by omega)).trans r4))))
  have q0 := (a5 0 (by omega)).trans ((a4 0 (by omega)).trans ((a3 0 (by omega)).trans ((a2 0 (by omega)).trans k0)))
  have q1 := (a5 1 (by omega)).trans ((a4 1 (by omega)).trans ((a3 1 (by omega)).trans k1))
  have q2 := (a5 2 (by omega)).trans ((a4 2 (by omega)).trans k2)
  have q3 := (a5 3 (by omega)).trans k3
  have q5 := fun a o h => (b5 a o h).trans ((b4 a o h).trans ((b3 a o h).trans ((b2 a o h).trans (b1 a o h))))
  have q6 := fun B w hB h => (e5 B w hB (e4 B w hB (e3 B w hB (e2 B w hB (e1 B w hB h))))).drew
  clear a1 a2 a3 a4 a5 b1 b2 b3 b4 b5 c1 c2 c3 c4 c5 e1 e2 e3 e4 e5
  subst hV
  exact ⟨q0, q1, q2, q3, k4, q5, by rw [← d1, ← d2, ← d3, ← d4, ← d5]; simp, q6⟩

set_option maxRecDepth 100000 in
set_option maxHeartbeats 16000000 in
theorem made_yes (g : Gau) (p : GPos) (x : Tru) (q : TPos) (w : World) (hok : GauOk w p g) (hx : TruOk w q x) (h0 : 0 ≤ x.from_) (h1 : x.from_ ≤ 199800) (h2 : x.mv.length < 150) (h3 : -20000 ≤ x.level) (h4 : x.level ≤ 20000) :
    Calls Try.prog 46 #[.agg #[.string g.name, .int .i64 g.err, .int .i64 g.rate, .slice p.da g.ds.length p.dc, .slice p.ra g.rs.length p.rc], .agg #[.int .i64 x.from_, .int .i64 x.level, .slice q.ma x.mv.length q.mc, .slice q.ga x.gp.length q.gc, .slice q.sa x.sh.length q.sc, .slice q.ea x.er.length q.ec]] w
      fun e w' => MadeR g x w e w' := by
  have HH := hid hok; have HX := hid hx; clear hok hx
  obtain ⟨i0, hi, hz0, hz1, hz2⟩ := info_parts A.infoInt
  obtain ⟨j0, hj, hy0, hy1, hy2⟩ := info_parts A.infoRdg
  have h2' : (x.mv.length : Int) < 150 := by omega
  go_enter Try.func46, Try.ntmps46
  go_wp2_with fail
  generalize hW3 : World.alloc (World.alloc (World.alloc w _) _) _ = W3
  have sW3 : W3.heap.size = w.heap.size + 1 + 1 + 1 := by rw [← hW3]; simp
  have hlit := ownsRow_lit (w := W3) (base := w.heap.size + 3) (T := 3) (.int .i64 x.level) (by omega)
  rw [sW3] at hlit
  generalize hWs : World.alloc W3 _ = Ws
  rw [hWs] at hlit
  rw [← hW3] at hWs
  have sWs : Ws.heap.size = w.heap.size + 4 := by rw [← hWs]; simp
  have BWs : Below w.heap.size w Ws := by rw [← hWs]; repeat (first | exact Below.refl _ _ | refine Below.alloc ?_ (by simp <;> omega) _)
  have hgb : GauBox Ws w.heap.size g p := by rw [← hWs]; exact ⟨by simp [go_sem], by simp [go_sem], by simp [go_sem], by simp [go_sem], by simp [go_sem]⟩
  have hxb : TruBox Ws (w.heap.size + 1) x q := by rw [← hWs]; exact ⟨by simp [go_sem], by simp [go_sem], by simp [go_sem], by simp [go_sem], by simp [go_sem], by simp [go_sem]⟩
  have hgf : ∀ o, Ws.frozen? ⟨w.heap.size, o, none⟩ = false := by intro o; rw [← hWs]; simp [go_sem]
  have hrf : ∀ o, Ws.frozen? ⟨w.heap.size + 2, o, none⟩ = false := by intro o; rw [← hWs]; simp [go_sem]
  have hr0 : Ws.cell? ⟨w.heap.size + 2, 0, none⟩ = some (.string ⟨#[]⟩) ∧ Ws.cell? ⟨w.heap.size + 2, 1, none⟩ = some (.int .i64 0) ∧ Ws.cell? ⟨w.heap.size + 2, 2, none⟩ = some (.int .i64 0) ∧ Ws.cell? ⟨w.heap.size + 2, 3, none⟩ = some (.slice none 0 0) ∧ Ws.cell? ⟨w.heap.size + 2, 4, none⟩ = some (.slice none 0 0) := by
    rw [← hWs]; exact ⟨by simp [go_sem], by simp [go_sem], by simp [go_sem], by simp [go_sem], by simp [go_sem]⟩
  have HGB := hid hgb; have HXB := hid hxb; have HGF := hid hgf; have HRF := hid hrf; have HR0 := hid hr0; have HRow := hid hlit; have HSW := hid sWs
  clear hWs hgb hxb hgf hrf hr0 hlit sWs hW3 sW3
  go_loopw [7, 8] (fun lv i wr => ∃ (k : Nat) (L : List Int), k ≤ x.mv.length ∧ i = .int .i64 k ∧ Hid (L.length = k + 1) ∧ Hid (wr.ownsRow (w.heap.size + 3) 3 1 lv (k + 1) (intVals L)) ∧ Hid (Chain g.rate L) ∧ Below (w.heap.size + 3) Ws wr) (fun _ i _ => x.mv.length - (intOf i).toNat)
  case atStart => exact ⟨0, [x.level], Nat.zero_le _, rfl, hid rfl, HRow, hid (Chain.one ⟨h3, h4⟩), Below.refl _ _⟩
  case round =>
    obtain ⟨k, L, hk, rfl, hLl, hown, hch, hbw⟩ := hrel
    have hsz : w.heap.size + 4 ≤ wr.heap.size := by have := hbw.size; have := HSW.out; omega
    obtain ⟨gg, cp, hlv⟩ := ownsRow_succ hown.out
    subst hlv
    by_cases hlt : k < x.mv.length
    · obtain ⟨_, _, g2, _, _⟩ := HGB.out.later hbw (by omega)
      obtain ⟨_, _, x2, _, _, _⟩ := HXB.out.later hbw (by omega)
      rcases (HX.out.later (BWs.trans (hbw.mono (by omega))) (Nat.le_refl _)).mat with h0 | ⟨mb, mo, hma, hms, hmc⟩
      · rw [h0] at hlt; simp at hlt
      have m0 := hmc k hlt
      have hmb := HX.out.mbd x.mv[k] (List.getElem_mem _)
      have hlk : k < L.length := by rw [hLl.out]; omega
      have l0 := hown.out.cells (g := gg) rfl k (.int .i64 L[k]) (by simp [intVals, hlk])
      rw [addr_add0] at l0
      have hLb := hch.out.bd k hlk
      rw [hma] at x2
      have HCn : Hid (∀ y, (-20000 ≤ y ∧ y ≤ 20000) → (0 ≤ g.rate → g.rate ≤ 5000 → y - L[k] ≤ g.rate ∧ L[k] - y ≤ g.rate) → Chain g.rate (L ++ [y])) := hid (fun y hy hs => hch.out.snoc hLl.out hy hs)
      have hlt' : (k : Int) < (x.mv.length : Int) := by omega
      clear hmc
      generalize x.mv[k] = m at *
      generalize L[k] = lk at *
      have hnv : wrap64 (lk + wrap64 ((wrap64 (g.rate * max (wrap64 m) (-127))).tdiv 127)) = lk + (moveZ g.rate m).tdiv 127 := by
        rw [wrap_id (n := m) (by omega) (by omega)]
        have d := moveD_bd (moveZ_bd g.rate m)
        unfold moveZ at d ⊢
        rw [wrap_id (n := (wrap64 (g.rate * max m (-127))).tdiv 127) (by omega) (by omega), wrap_id (by omega) (by omega)]
      have hnl : max (-20000) (min 20000 (lk + (moveZ g.rate m).tdiv 127)) = nextL g.rate lk m := rfl
      have hnb := nextL_bd g.rate lk m
      have hnn := fun r0 r1 => nextL_near (rate := g.rate) (l := lk) (m := m) hLb hmb r0 r1
      have HNv := hid hnv; have HNl := hid hnl; have HNb := hid hnb; have HNn := hid hnn
      clear hnv hnl hnb hnn hmb hLb hma h0
      go_wp2_with fail
      go_quiet (fail)
      rw [HNv.out]
      generalize hd : lk + (moveZ g.rate m).tdiv 127 = nv at *
      have HD := hid hd; clear hd
      generalize hV : World.drewN wr _ = V
      have bV : Below (w.heap.size + 3) wr V := by rw [← hV]; exact below_drewN (Below.refl _ _) _
      have HO := hid (show V.ownsRow (w.heap.size + 3) 3 1 (.slice (some ⟨gg, 0, none⟩) (k + 1) cp) (k + 1) (intVals L) from ownsRow_below hown.out (by rw [← hV]; exact below_drewN (Below.refl _ _) _))
      clear hV
      go_wp2_with (at_builtin; refine wpList_append_own _ rfl _ _ 52 rfl (w.heap.size + 3) 3 i0 (.int .i64 0) 1 8 Try.underlying52 hi hz0 hz1 hz2 rfl (by decide) _ _ _ rfl (HO.out.alloc _) ⟨V.heap.size, 0, none⟩ 1 1 [.int .i64 (max (-20000) (min 20000 nv))] rfl rfl (by intro j u hj; match j, hj with | 0, hj => simp at hj; subst hj; simp [Addr.add, go_sem]) (by intro u hu; simp at hu; subst hu; rfl) (by unfold maxLen; omega) (by omega) (by have := bV.size; simp; omega) ?_)
      intro v' w1 hown' hgrow _
      have bV' : Below (w.heap.size + 3) wr w1 := bV.trans (((Below.refl _ _).alloc (by have := bV.size; omega) _).trans (below_own (HO.out.alloc _) (Nat.le_refl _) (by have := bV.size; simp; omega) hgrow))
      have HO' := hid (show w1.ownsRow (w.heap.size + 3) 3 1 v' (k + 1 + 1) (intVals (L ++ [nextL g.rate lk m])) by
        rw [show intVals (L ++ [nextL g.rate lk m]) = intVals L ++ [.int .i64 (nextL g.rate lk m)] by simp [intVals], ← HNl.out]; exact hown')
      clear hown' hgrow bV
      go_wp2_with fail
      refine ⟨⟨k + 1, L ++ [nextL g.rate lk m], by omega, by go_num, hid (by simp [hLl.out]), HO', hid (HCn.out _ HNb.out HNn.out), hbw.trans bV'⟩, by simp [intOf]; omega⟩
    · obtain rfl : k = x.mv.length := by omega
      obtain ⟨g0, g1, g2, g3, g4⟩ := HGB.out.later hbw (by omega)
      obtain ⟨x0, x1, x2, x3, x4, x5⟩ := HXB.out.later hbw (by omega)
      have gf4 := (hbw.frozen (p := ⟨w.heap.size, 4, none⟩) (by show w.heap.size < w.heap.size + 3; omega)).trans (HGF.out 4)
      have hrows : ∀ i (h : i < L.length), wr.cell? ⟨gg, i, none⟩ = some (.int .i64 L[i]) := fun i hi => by
        have := hown.out.cells (g := gg) rfl i (.int .i64 L[i]) (by simp [intVals, hi])
        rwa [addr_add0] at this
      have hgg := hown.out.lt gg rfl
      obtain ⟨r0, r1, r2, r3, r4⟩ := HR0.out
      have e2 : ∀ o, wr.cell? ⟨w.heap.size + 2, o, none⟩ = Ws.cell? ⟨w.heap.size + 2, o, none⟩ := fun o => hbw.cell (p := ⟨w.heap.size + 2, o, none⟩) (by show w.heap.size + 2 < w.heap.size + 3; omega)
      have hM : MInv w.heap.size gg g p x q w wr L := ⟨g0, g1, g2, g3, fun o => (hbw.frozen (p := ⟨w.heap.size, o, none⟩) (by show w.heap.size < w.heap.size + 3; omega)).trans (HGF.out o), ⟨x0, x1, x2, x3, x4, x5⟩,
        (e2 _).trans r0, (e2 _).trans r1, (e2 _).trans r2, (e2 _).trans r3, (e2 _).trans r4, fun o => (hbw.frozen (p := ⟨w.heap.size + 2, o, none⟩) (by show w.heap.size + 2 < w.heap.size + 3; omega)).trans (HRF.out o), hrows, BWs.trans (hbw.mono (by omega))⟩
      have HM := hid (hM.set (by omega) (.slice none 0 0))
      clear hrows r0 r1 r2 r3 r4 e2 hM
      obtain ⟨hgg1, hgg2⟩ := hgg
      go_wp2_with fail
      generalize hWb : World.setCell wr _ _ = Wb
      have HM0 : Hid (MInv w.heap.size gg g p x q w Wb L) := hid (by rw [← hWb]; exact HM.out)
      have hc4 : Wb.cell? ⟨w.heap.size, 4, none⟩ = some (.slice none 0 0) := by rw [← hWb]; exact World.cell?_setCell_same' _ _ _ (by rw [g4]; rfl)
      have sWb : Wb.heap.size = wr.heap.size := by rw [← hWb]; simp
      have HC4 := hid hc4; have HSB := hid sWb
      clear hWb HM g0 g1 g2 g3 g4 gf4 x0 x1 x2 x3 x4 x5 hc4 sWb HRow HR0 HRF HGF HXB HGB hbw hown
      go_loopw [10, 11] (fun av i wx => ∃ (k pos : Nat) (rs : List Rdg), k ≤ x.gp.length ∧ k ≤ 60 ∧ i = .int .i64 k ∧ av = .int .i64 pos ∧ pos < x.mv.length + 1 ∧ rs.length ≤ k ∧ Hid (∃ v, wx.ownsRow Wb.heap.size 114 2 v rs.length (rdgVals rs) ∧ wx.cell? ⟨w.heap.size, 4, none⟩ = some v) ∧
        Hid (∀ r ∈ rs, Came g x.from_ x.sh L r ∧ I64 r.tick ∧ I64 r.value) ∧ Hid (MInv w.heap.size gg g p x q w wx L) ∧ Hid (Wb.heap.size ≤ wx.heap.size)) (fun _ i _ => x.gp.length - (intOf i).toNat)
      case atStart => exact ⟨0, 0, [], Nat.zero_le _, Nat.zero_le _, rfl, rfl, by omega, Nat.le_refl _, hid ⟨_, World.ownsRow_nil _ _ _ _, HC4.out⟩, hid (by simp), HM0, hid (Nat.le_refl _)⟩
      case round =>
        obtain ⟨k, pos, rs, hk, hk60, rfl, rfl, hpos, hrl, hvo, hcame, hM, hsz2⟩ := hrel
        have hMM := hM.out
        obtain ⟨v, hvr, hv4⟩ := hvo.out
        obtain ⟨ra, rcp, hv, hrlc, hrows⟩ := rdgsAt_of_own hvr
        subst hv
        have HOwn := hid hvr
        have HRw := hid hrows
        clear hvr hrows hvo
        obtain ⟨g0, g1, g2, g3, gf, ⟨x0, x1, x2, x3, x4, x5⟩, r0, r1, r2, r3, r4, rf, hrow, hlow⟩ := hMM
        have rf0 := rf 0
        have rf1 := rf 1
        have rf2 := rf 2
        have rf3 := rf 3
        have rf4 := rf 4
        have HRow := hid hrow
        have HLow := hid hlow
        have HGF := hid gf
        clear hrow hlow gf rf
        have hways : x.gp.length ≤ k ∨ (k < x.gp.length ∧ 60 ≤ k) ∨ (k < x.gp.length ∧ k < 60) := by omega
        rcases hways with hw | ⟨hw, hw'⟩ | ⟨hw, hw'⟩
        · have hd : decide ((k : Int) < (x.gp.length : Int)) = false := by simp; omega
          go_wp2_with fail
          go_region
          obtain ⟨v0, v1, v2, v3, v4, hE, hs, hlow⟩ := five_sets (W := wr) (b := w.heap.size + 1 + 1) (v0 := .string g.name) (v1 := .int .i64 g.err) (v2 := .int .i64 g.rate) (v3 := .slice p.da g.ds.length p.dc) (v4 := .slice ra rs.length rcp) r0 r1 r2 r3 r4 rfl
          have hlow := hlow w.heap.size w (by omega) HLow.out
          generalize World.drew _ = V at *
          go_wp2_with fail
          exact bodyPost_ret (v := .tuple #[.slice (some ⟨gg, 0, none⟩) (x.mv.length + 1) cp, .agg #[.string g.name, .int .i64 g.err, .int .i64 g.rate, .slice p.da g.ds.length p.dc, .slice ra rs.length rcp], .bool true]) (by simp [results, Try.results46, go_sem, v0, v1, v2, v3, v4]) rfl
            (made_end hM.out HOwn.out hrlc HRw.out (by have := hsz2.out; have := HSB.out; omega) hgg1 (by have := hsz2.out; have := HSB.out; omega) hE hs rfl hlow HH.out hch.out hLl.out hcame.out (by omega))
        · have hd : decide ((k : Int) < (x.gp.length : Int)) = true := by simp; omega
          have hd2 : decide ((k : Int) < 60) = false := by simp; omega
          go_wp2_with fail
          go_region
          obtain ⟨v0, v1, v2, v3, v4, hE, hs, hlow⟩ := five_sets (W := wr) (b := w.heap.size + 1 + 1) (v0 := .string g.name) (v1 := .int .i64 g.err) (v2 := .int .i64 g.rate) (v3 := .slice p.da g.ds.length p.dc) (v4 := .slice ra rs.length rcp) r0 r1 r2 r3 r4 rfl
          have hlow := hlow w.heap.size w (by omega) HLow.out
          generalize World.drew _ = V at *
          go_wp2_with fail
          exact bodyPost_ret (v := .tuple #[.slice (some ⟨gg, 0, none⟩) (x.mv.length + 1) cp, .agg #[.string g.name, .int .i64 g.err, .int .i64 g.rate, .slice p.da g.ds.length p.dc, .slice ra rs.length rcp], .bool true]) (by simp [results, Try.results46, go_sem, v0, v1, v2, v3, v4]) rfl
            (made_end hM.out HOwn.out hrlc HRw.out (by have := hsz2.out; have := HSB.out; omega) hgg1 (by have := hsz2.out; have := HSB.out; omega) hE hs rfl hlow HH.out hch.out hLl.out hcame.out (by omega))
        · have hd : decide ((k : Int) < (x.gp.length : Int)) = true := by simp; omega
          have hd2 : decide ((k : Int) < 60) = true := by simp; omega
          have hw2 : (k : Int) < (x.gp.length : Int) := by omega
          rcases (HX.out.later HLow.out (Nat.le_refl _)).gat with h0 | ⟨gb, go, hga, hgs, hgc⟩
          · rw [h0] at hw; simp at hw
          have gc0 := hgc k hw
          have hgbd := HX.out.gbd x.gp[k] (List.getElem_mem _)
          rw [hga] at x3
          clear hgc hga
          generalize x.gp[k] = gv at *
          obtain ⟨gn, rfl⟩ : ∃ gn : Nat, gv = (gn : Int) := ⟨gv.toNat, by omega⟩
          have hgn : gn ≤ 255 := by omega
          clear hgbd
          obtain ⟨P, hP⟩ : ∃ P : Nat, P = pos + gn % 8 + (if k = 0 then 0 else 1) := ⟨_, rfl⟩
          have hPb : P ≤ pos + 8 := by rw [hP]; split <;> omega
          have HP := hid hP; clear hP
          go_upto_if 95 with fail
          go_cut [10] (fun s10 wx => s10 = .int .i64 P ∧ wx = wr)
          case first =>
            by_cases hk0 : k = 0
            · have e : (P : Int) = (pos : Int) + (gn : Int) % 8 := by rw [HP.out, if_pos hk0]; omega
              have hk0' : ¬ (0 : Int) < (k : Int) := by omega
              have HE := hid e; clear e hk0
              go_wp2_with fail
              go_meet
              exact ⟨by rw [HE.out], rfl⟩
            · have e : (P : Int) = (pos : Int) + (gn : Int) % 8 + 1 := by rw [HP.out, if_neg hk0]; omega
              have hk0' : (0 : Int) < (k : Int) := by omega
              have HE := hid e; clear e hk0
              go_wp2_with fail
              go_meet
              exact ⟨by rw [HE.out], rfl⟩
          case rest =>
            obtain ⟨rfl, hwc⟩ := hcut
            subst hwc
            obtain ⟨Wr, hWr⟩ : ∃ V, V = wc := ⟨_, rfl⟩
            subst hWr
            by_cases hbr : x.mv.length + 1 ≤ P
            · have hbr' : (x.mv.length : Int) + 1 ≤ (P : Int) := by omega
              go_wp2_with fail
              go_region
              obtain ⟨v0, v1, v2, v3, v4, hE, hs, hlow⟩ := five_sets (W := Wr) (b := w.heap.size + 1 + 1) (v0 := .string g.name) (v1 := .int .i64 g.err) (v2 := .int .i64 g.rate) (v3 := .slice p.da g.ds.length p.dc) (v4 := .slice ra rs.length rcp) r0 r1 r2 r3 r4 rfl
              have hlow := hlow w.heap.size w (by omega) HLow.out
              generalize World.drew _ = V at *
              go_wp2_with fail
              exact bodyPost_ret (v := .tuple #[.slice (some ⟨gg, 0, none⟩) (x.mv.length + 1) cp, .agg #[.string g.name, .int .i64 g.err, .int .i64 g.rate, .slice p.da g.ds.length p.dc, .slice ra rs.length rcp], .bool true]) (by simp [results, Try.results46, go_sem, v0, v1, v2, v3, v4]) rfl
                (made_end hM.out HOwn.out hrlc HRw.out (by have := hsz2.out; have := HSB.out; omega) hgg1 (by have := hsz2.out; have := HSB.out; omega) hE hs rfl hlow HH.out hch.out hLl.out hcame.out (by omega))
            · have hbr' : (P : Int) < (x.mv.length : Int) + 1 := by omega
              go_wp2_with fail
              have HV4 := hid hv4
              clear g0 g1 g2 g3 x0 x1 x2 x3 x4 x5 r0 r1 r2 r3 r4 rf0 rf1 rf2 rf3 rf4 gc0 hgs hv4 hd hd2 hw2 hgn
              go_loopw [12, 13] (fun d j wx => ∃ m : Nat, m ≤ g.ds.length ∧ j = .int .i64 m ∧ d = .int .i64 (dIdx g.ds (x.from_ + P) m) ∧ Below Wr.heap.size Wr wx) (fun _ j _ => g.ds.length - (intOf j).toNat)
              case atStart => exact ⟨0, Nat.zero_le _, rfl, rfl, Below.refl _ _⟩
              case round =>
                obtain ⟨m, hm, rfl, rfl, hbx⟩ := hrel
                have hMx := hM.out.later hbx (by have := hsz2.out; have := HSB.out; omega) (by have := hsz2.out; have := HSB.out; omega)
                have g3 := hMx.g3
                have x0 := hMx.x.c0
                have hdcap := HH.out.wf.dcap
                by_cases hlt : m < g.ds.length
                · rcases (HH.out.later hMx.low (Nat.le_refl _)).ds with h0 | ⟨db, dd, hda, hds, hdc⟩
                  · rw [h0] at hlt; simp at hlt
                  obtain ⟨d0, _, _⟩ := hdc m hlt
                  have HD := hid (show dIdx g.ds (x.from_ + P) (m + 1) = if g.ds[m].from_ ≤ x.from_ + P then m else dIdx g.ds (x.from_ + P) m by simp [dIdx, List.getD, hlt])
                  rw [hda] at g3
                  clear hdc hda hMx
                  generalize g.ds[m] = d at *
                  generalize dIdx g.ds (x.from_ + P) m = qd at *
                  have hlt' : (m : Int) < (g.ds.length : Int) := by omega
                  have hlen : (g.ds.length : Int) ≤ 140737488355328 := by omega
                  have hsum : IntKind.i64.wrap (x.from_ + P) = x.from_ + P := IntWalk.i64_in _ (by omega)
                  by_cases hle : d.from_ ≤ x.from_ + P
                  · have hdec : decide (d.from_ ≤ x.from_ + P) = true := by simpa using hle
                    have HL := hid hle; clear hle
                    go_wp2_with fail
                    go_quiet (fail)
                    go_wp2_with fail
                    refine ⟨⟨m + 1, by omega, by go_num, by rw [HD.out, if_pos HL.out], below_drewN hbx _⟩, by simp [intOf]; omega⟩
                  · have hdec : decide (d.from_ ≤ x.from_ + P) = false := by simpa using hle
                    have HL := hid hle; clear hle
                    go_wp2_with fail
                    go_quiet (fail)
                    go_wp2_with fail
                    refine ⟨⟨m + 1, by omega, by go_num, by rw [HD.out, if_neg (by have := HL.out; omega)], below_drewN hbx _⟩, by simp [intOf]; omega⟩
                · obtain rfl : m = g.ds.length := by omega
                  clear g3 x0
                  have hlP : P < L.length := by rw [hLl.out]; omega
                  have l0 := hMx.row P hlP
                  have HLb := hid (hch.out.bd P hlP)
                  have HgetP := hid (show L.getD P 0 = L[P] by simp [List.getD, hlP])
                  generalize L[P] = lp at *
                  obtain ⟨Q, hQ⟩ : ∃ Q, dIdx g.ds (x.from_ + P) g.ds.length = Q := ⟨_, rfl⟩
                  rw [hQ]
                  have HQ := hid hQ
                  clear hQ
                  obtain ⟨lb1, lb2⟩ := HLb.out
                  have hMy := hMx
                  obtain ⟨g0, g1, g2, g3, gf, ⟨x0, x1, x2, x3, x4, x5⟩, r0, r1, r2, r3, r4, rf, hrow, hlow⟩ := hMy
                  have HMx := hid hMx
                  have HLx := hid hlow
                  clear hMx gf rf r0 r1 r2 r3 r4 hrow hlow
                  have hQb : Q ≤ 140737488355328 := by rw [← HQ.out]; rcases dIdx_lt g.ds (x.from_ + P) g.ds.length with h | h <;> omega
                  have lz : w.heap.size + 4 ≤ wr.heap.size := by have := hsz2.out; have := HSB.out; have := hbx.size; omega
                  have lz0 : w.heap.size < wr.heap.size := by omega
                  have lz1 : w.heap.size + 1 < wr.heap.size := by omega
                  have ln0 : w.heap.size ≠ wr.heap.size := by omega
                  have ln1 : w.heap.size + 1 ≠ wr.heap.size := by omega
                  go_upto_if 129 with fail
                  go_cut [14] (fun s14 wx => ∃ val : Int, s14 = .int .i64 val ∧ I64 val ∧ Hid (Sane g → val = L.getD P 0 + shiftOf (datumOf g (x.from_ + P)) x.sh Q) ∧ Below wr.heap.size wr wx)
                  case first =>
                    by_cases hQl : Q < g.ds.length
                    · have hQl' : (Q : Int) < (g.ds.length : Int) := by omega
                      have hlen : (g.ds.length : Int) ≤ 140737488355328 := by omega
                      have hslen : (x.sh.length : Int) ≤ 140737488355328 := by have := HX.out.slen; omega
                      rcases (HH.out.later HLx.out (Nat.le_refl _)).ds with h0 | ⟨db, dd, hda, hds, hdc⟩
                      · rw [h0] at hQl; simp at hQl
                      obtain ⟨_, d1, d2⟩ := hdc Q hQl
                      rw [hda] at g3
                      have HDo := hid (show datumOf g (x.from_ + P) = g.ds[Q] by unfold datumOf; rw [HQ.out]; simp [List.getD, hQl])
                      have HSn := hid (fun (hs : Sane g) => hs.dat Q hQl)
                      clear hdc hda
                      generalize g.ds[Q] = dt at *
                      by_cases hQs : Q < x.sh.length
                      · have hQs' : (Q : Int) < (x.sh.length : Int) := by omega
                        rcases (HX.out.later HLx.out (Nat.le_refl _)).sat with h0 | ⟨sb, so, hsa, hss, hsc⟩
                        · rw [h0] at hQs; simp at hQs
                        have sc0 := hsc Q hQs
                        obtain ⟨sv1, sv2⟩ := HX.out.sbd x.sh[Q] (List.getElem_mem _)
                        rw [hsa] at x4
                        have HSh := hid (show shiftOf dt x.sh Q = dt.lo + ((dt.hi - dt.lo) * x.sh[Q]).tdiv 255 by unfold shiftOf; rw [if_pos hQs]; simp [List.getD, hQs])
                        have lns : sb ≠ wr.heap.size := by omega
                        clear hsc hsa
                        generalize x.sh[Q] = sv at *
                        go_wp2_with fail
                        go_quiet (fail)
                        go_wp2_with fail
                        go_meet
                        exact ⟨_, rfl, i64_wrap _, hid (fun hs => by
                          have := HSn.out hs
                          rw [HgetP.out, HDo.out, HSh.out]; exact valA lb1 lb2 this.1 this.2.1 this.2.2 sv1 sv2), below_drewN ((Below.refl _ _).alloc (Nat.le_refl _) _) _⟩
                      · have hQs' : (x.sh.length : Int) ≤ (Q : Int) := by omega
                        go_wp2_with fail
                        go_meet
                        exact ⟨_, rfl, i64_wrap _, hid (fun hs => by
                          have := HSn.out hs
                          rw [HgetP.out, HDo.out]; unfold shiftOf; rw [if_neg (by omega)]; exact wrap_id (by omega) (by omega)), (Below.refl _ _).alloc (Nat.le_refl _) _⟩
                    · have hQl' : (g.ds.length : Int) ≤ (Q : Int) := by omega
                      go_wp2_with fail
                      go_meet
                      exact ⟨_, rfl, ⟨by omega, by omega⟩, hid (fun hs => by
                        have := hs.dlen
                        rcases dIdx_lt g.ds (x.from_ + P) g.ds.length with h | h <;> rw [HQ.out] at h <;> omega), Below.refl _ _⟩
                  case rest =>
                    obtain ⟨val, rfl, hvI, hval, hbz⟩ := hcut
                    obtain ⟨W4, hW4⟩ : ∃ V, V = wc := ⟨_, rfl⟩
                    subst hW4
                    have HM4 := hid (HMx.out.later hbz (by omega) (by have := hsz2.out; have := HSB.out; have := hbx.size; omega))
                    have hb4 : Below Wr.heap.size Wr W4 := hbx.trans (hbz.mono hbx.size)
                    have hz4 : w.heap.size + 4 ≤ W4.heap.size := by have := hbz.size; omega
                    have g1 := HM4.out.g1
                    have x0 := HM4.out.x.c0
                    have x5 := HM4.out.x.c5
                    clear hbz g0 g1 g2 g3 x0 x1 x2 x3 x4 x5 l0 lz lz0 lz1 ln0 ln1 hbx HMx HLx
                    have g1 := HM4.out.g1
                    have x0 := HM4.out.x.c0
                    have x5 := HM4.out.x.c5
                    obtain ⟨hvI1, hvI2⟩ := hvI
                    go_upto_if 164 with fail
                    go_cut [14] (fun s14 wx => ∃ val2 : Int, s14 = .int .i64 val2 ∧ I64 val2 ∧ Hid (Sane g → ∃ er : Int, -g.err ≤ er ∧ er ≤ g.err ∧ val2 = L.getD P 0 + shiftOf (datumOf g (x.from_ + P)) x.sh Q + er) ∧ Below W4.heap.size W4 wx)
                    case first =>
                      by_cases hke : k < x.er.length
                      · have hke' : (k : Int) < (x.er.length : Int) := by omega
                        have helen : (x.er.length : Int) ≤ 140737488355328 := by have := HX.out.elen; omega
                        rcases (HX.out.later HM4.out.low (Nat.le_refl _)).eat with h0 | ⟨eb, eo, hea, hes, hec⟩
                        · rw [h0] at hke; simp at hke
                        have ec0 := hec k hke
                        have hev := HX.out.ebd x.er[k] (List.getElem_mem _)
                        rw [hea] at x5
                        clear hec hea
                        generalize x.er[k] = ev at *
                        have HEv := hid hev; clear hev
                        go_wp2_with fail
                        go_quiet (fail)
                        go_wp2_with fail
                        go_meet
                        exact ⟨_, rfl, i64_wrap _, hid (fun hs => by
                          have hsh := shift_sane hs HX.out.sbd (x.from_ + P) Q
                          have hv := hval.out hs
                          rw [HgetP.out] at hv ⊢
                          obtain ⟨er, e1, e2, e3⟩ := valB (v := val) (e := g.err) (m := ev) (by omega) (by omega) hs.err.1 hs.err.2 HEv.out.1 HEv.out.2
                          exact ⟨er, e1, e2, by rw [e3, hv]⟩), below_drewN (Below.refl _ _) _⟩
                      · have hke' : (x.er.length : Int) ≤ (k : Int) := by omega
                        go_wp2_with fail
                        go_meet
                        exact ⟨_, rfl, ⟨hvI1, hvI2⟩, hid (fun hs => ⟨0, by have := hs.err; omega, by have := hs.err; omega, by rw [hval.out hs]; omega⟩), Below.refl _ _⟩
                    case rest =>
                      obtain ⟨val2, rfl, hvI', hval2, hbz⟩ := hcut
                      obtain ⟨W5, hW5⟩ : ∃ V, V = wc := ⟨_, rfl⟩
                      subst hW5
                      have hM5 := HM4.out.later hbz (by omega) (by have := hsz2.out; have := HSB.out; have := hb4.size; omega)
                      have hb5 : Below Wr.heap.size Wr W5 := hb4.trans (hbz.mono hb4.size)
                      have hz5 : w.heap.size + 4 ≤ W5.heap.size := by have := hbz.size; omega
                      have hbs : Wb.heap.size ≤ W5.heap.size := by have := hsz2.out; have := hb5.size; omega
                      have hbw4 : w.heap.size + 4 ≤ Wb.heap.size := by have := HSB.out; omega
                      have hggb : gg < Wb.heap.size := by have := HSB.out; omega
                      clear g1 x0 x5 hvI1 hvI2 hbz hb4 hz4
                      have x0 := hM5.x.c0
                      have gf4 := hM5.gf 4
                      have gv4 := (hb5.cell (p := ⟨w.heap.size, 4, none⟩) (by have := hsz2.out; show w.heap.size < _; omega)).trans HV4.out
                      have HO5 := hid (ownsRow_below HOwn.out hb5)
                      have HM5 := hid hM5
                      have ln5 : w.heap.size ≠ W5.heap.size := by omega
                      have ll5 : w.heap.size < W5.heap.size := by omega
                      have ll5' : w.heap.size + 1 < W5.heap.size := by omega
                      clear hM5 HM4
                      go_wp2_with (at_builtin; refine wpList_append_own _ rfl _ _ 41 rfl Wb.heap.size 114 j0 (.agg #[.int .i64 0, .int .i64 0]) 2 16 Try.underlying41 hj hy0 hy1 hy2 rfl (by decide) _ _ _ rfl (HO5.out.alloc _) ⟨W5.heap.size, 0, none⟩ 1 1 [.int .i64 (x.from_ + P), .int .i64 val2] rfl rfl (by intro j u hj; match j, hj with | 0, hj => simp at hj; subst hj; simp [Addr.add, go_sem] | 1, hj => simp at hj; subst hj; simp [Addr.add, go_sem]) (by intro u hu; simp at hu; rcases hu with rfl | rfl <;> rfl) (by unfold maxLen; omega) (by omega) (by simp; omega) ?_)
                      intro v' w1 hown' hgrow _
                      have bV : Below Wb.heap.size W5 w1 := ((Below.refl _ _).alloc hbs _).trans (below_own (HO5.out.alloc _) (Nat.le_refl _) (by simp; omega) hgrow)
                      obtain ⟨gn', cap', hv'⟩ := ownsRow_succ hown'
                      subst hv'
                      have hM6 := HM5.out.later bV (by omega) hggb
                      have gf4 := hM6.gf 4
                      have gv4 := (bV.cell (p := ⟨w.heap.size, 4, none⟩) (by show w.heap.size < _; omega)).trans gv4
                      have HM6 := hid hM6
                      have HO6 := hid (show w1.ownsRow Wb.heap.size 114 2 (.slice (some ⟨gn', 0, none⟩) (rs.length + 1) cap') (rs ++ [(⟨x.from_ + P, val2⟩ : Rdg)]).length (rdgVals (rs ++ [(⟨x.from_ + P, val2⟩ : Rdg)])) by rw [rdgVals_snoc, List.length_append]; exact hown')
                      have HV5 := hid gv4
                      have ls1 : Wb.heap.size ≤ w1.heap.size := by have := bV.size; omega
                      clear hown' hgrow hM6 x0 bV
                      go_wp2_with fail
                      refine ⟨⟨k + 1, P, rs ++ [(⟨x.from_ + P, val2⟩ : Rdg)], by omega, by omega, by go_num, rfl, by omega, by simp; omega, hid ⟨.slice (some ⟨gn', 0, none⟩) (rs.length + 1) cap', ?_, ?_⟩, hid (fun r hr => ?_), hid (HM6.out.set (by omega) _), hid (by simpa using ls1)⟩, by simp [intOf]; omega⟩
                      · exact ownsRow_set HO6.out _ _ (ownsRow_lt HO6.out (.inl (by simp; omega)))
                      · exact World.cell?_setCell_same' _ _ _ (by rw [HV5.out]; rfl)
                      · rcases List.mem_append.1 hr with hr | hr
                        · exact hcame.out r hr
                        · obtain rfl := List.mem_singleton.1 hr
                          refine ⟨⟨P, hlP, rfl, fun hs => ?_⟩, ⟨by simp only; omega, by simp only; omega⟩, hvI'⟩
                          obtain ⟨er, e1, e2, e3⟩ := hval2.out hs
                          exact ⟨er, e1, e2, by simp only; rw [HQ.out]; exact e3⟩
end Go.Proofs.Ytfjankkkeehioaa
