/- Tide, part I: the levels of the tide, at some ticks. -/
import Derived.Test.YtblneiegekdnjaaTH
set_option linter.all false
namespace Go.Proofs.Ytblneiegekdnjaa
open Go.RowKit

/-- Where a constituent is at a tick, and its part there; the level at a tick, of some constituents. -/
def placeOf (c : Con) (t : Int) : Int := (c.off + c.step * t) % cyc c
def partAt (c : Con) (t : Int) : Int × Int := partP c (placeOf c t / c.den).toNat (placeOf c t % c.den)
def addP (c : Con) (t : Int) (s : Int × Int) : Int × Int := (s.1 + (partAt c t).1, s.2 + (partAt c t).2)
def levelAt (mean : Int) (cs : List Con) (t : Int) : Int × Int := cs.foldl (fun s c => addP c t s) (mean, mean)
theorem levelAt_snoc (mean : Int) (cs : List Con) (t : Int) (j : Nat) (hj : j < cs.length) : levelAt mean (cs.take (j + 1)) t = addP cs[j] t (levelAt mean (cs.take j) t) := by
  unfold levelAt; rw [List.take_succ_eq_append_getElem hj, List.foldl_append]; rfl

theorem placeOf_next (c : Con) (t : Int) : (placeOf c t + c.step) % cyc c = placeOf c (t + 1) := by
  unfold placeOf
  rw [Int.emod_add_emod, Int.mul_add, Int.mul_one, Int.add_assoc]
theorem placeOf_bd {c : Con} (h : ConGood c) (t : Int) : 0 ≤ placeOf c t ∧ placeOf c t < cyc c := by
  have := cyc_bd h
  exact ⟨Int.emod_nonneg _ (by omega), Int.emod_lt_of_pos _ (by omega)⟩

theorem placeQ_eq {c : Con} (h : ConGood c) {t : Int} (h0 : 0 ≤ t) (h1 : t ≤ 200000) : placeQ c t = placeOf c t := by
  obtain ⟨g1, g2, gh, g3, g4, g5, g6, g7, g8, g9, g10⟩ := h
  have h2 : c.den * (c.hs.length : Int) ≤ 1000 * 48 := Int.mul_le_mul g4 (by omega) (by omega) (by omega)
  have hm1 : 0 ≤ c.step * t := Int.mul_nonneg (by omega) h0
  have hm2 : c.step * t ≤ 100000 * 200000 := Int.mul_le_mul g8 h1 (by omega) (by omega)
  unfold placeQ placeOf
  rw [IntWalk.i64_in (c.step * t) ⟨by omega, by omega⟩, IntWalk.i64_in (c.off + c.step * t) ⟨by omega, by omega⟩]
  exact Int.tmod_eq_emod_of_nonneg (by omega)

/-- Rows of spans in memory, from the head of a block on. -/
structure SpanRow (w : World) (lb n : Nat) (f : Nat → Int × Int) : Prop where
  lo : ∀ i, i < n → w.cell? ⟨lb, i * 2, none⟩ = some (.int .i64 (f i).1)
  hi : ∀ i, i < n → w.cell? ⟨lb, i * 2 + 1, none⟩ = some (.int .i64 (f i).2)
  fr : ∀ o, w.frozen? ⟨lb, o, none⟩ = false

theorem SpanRow.later {w w' : World} {lb n B : Nat} {f : Nat → Int × Int} (h : SpanRow w lb n f) (hb : Below B w w') (hB : lb < B) : SpanRow w' lb n f :=
  ⟨fun i hi => (hb.cell (p := ⟨lb, _, none⟩) hB).trans (h.lo i hi), fun i hi => (hb.cell (p := ⟨lb, _, none⟩) hB).trans (h.hi i hi), fun o => (hb.frozen (p := ⟨lb, o, none⟩) hB).trans (h.fr o)⟩
theorem SpanRow.congr {w : World} {lb n : Nat} {f g : Nat → Int × Int} (h : SpanRow w lb n f) (hg : ∀ i, i < n → g i = f i) : SpanRow w lb n g :=
  ⟨fun i hi => by rw [hg i hi]; exact h.lo i hi, fun i hi => by rw [hg i hi]; exact h.hi i hi, h.fr⟩

theorem div_bd {n d b : Int} (h : -b ≤ n ∧ n ≤ b) (hd : 1 ≤ d) : -b ≤ n / d ∧ n / d ≤ b := by
  obtain ⟨h1, h2⟩ := h
  have hb : 0 ≤ b := by omega
  have hbd : b ≤ b * d := by have := Int.mul_le_mul_of_nonneg_left hd hb; omega
  refine ⟨(Int.le_ediv_iff_mul_le (by omega)).2 (by rw [Int.neg_mul]; omega), ?_⟩
  by_cases h : 0 ≤ n
  · exact Int.le_trans (Int.ediv_le_self d h) h2
  · exact Int.le_trans (Int.ediv_nonpos_of_nonpos_of_neg (by omega) (by omega)) hb
/-- Bounds of parts and levels. -/
theorem partAt_bd {c : Con} (h : ConGood c) (t : Int) : (-20001000 ≤ (partAt c t).1 ∧ (partAt c t).1 ≤ 20001000) ∧ (-20001000 ≤ (partAt c t).2 ∧ (partAt c t).2 ≤ 20001000) := by
  have hp := placeOf_bd h t
  have hcy := cyc_bd h
  obtain ⟨g1, g2, gh, g3, g4, g5, g6, g7, g8, g9, g10⟩ := h
  unfold partAt partP
  have hr0 : 0 ≤ placeOf c t % c.den := Int.emod_nonneg _ (by omega)
  have hr1 : placeOf c t % c.den < c.den := Int.emod_lt_of_pos _ (by omega)
  have hk : (placeOf c t / c.den).toNat < c.hs.length := by
    have := Int.ediv_lt_of_lt_mul (show 0 < c.den by omega) (show placeOf c t < (c.hs.length : Int) * c.den by rw [Int.mul_comm]; exact hp.2)
    omega
  generalize (placeOf c t / c.den).toNat = k at *
  generalize placeOf c t % c.den = r at *
  have hm : (k + 1) % c.hs.length < c.hs.length := Nat.mod_lt _ (by omega)
  have k1 := gh k hk
  have k2 := gh _ hm
  have e : heightN c k r = c.hs[k] * (c.den - r) + c.hs[(k + 1) % c.hs.length] * r := by simp [heightN, List.getD, hk, hm]
  have m2 := mul_bd k1.1 k1.2 (show 0 ≤ c.den - r by omega) (by omega)
  have m3 := mul_bd k2.1 k2.2 hr0 (by omega)
  rw [e]
  have b1 : -20000000 ≤ c.hs[k] * (c.den - r) + c.hs[(k + 1) % c.hs.length] * r ∧ c.hs[k] * (c.den - r) + c.hs[(k + 1) % c.hs.length] * r ≤ 20000000 := by omega
  generalize c.hs[k] * (c.den - r) + c.hs[(k + 1) % c.hs.length] * r = N at *
  clear e m2 m3 k1 k2 gh
  have q1 := div_bd b1 g3
  have q2 := div_bd (n := -N) (b := 20000000) (by omega) g3
  unfold upq
  exact ⟨⟨by omega, by omega⟩, ⟨by omega, by omega⟩⟩
theorem levelAt_bd {cs : List Con} (h : ∀ c ∈ cs, ConGood c) (t : Int) : ∀ (s : Int × Int), s.1 - 20001000 * cs.length ≤ (cs.foldl (fun s c => addP c t s) s).1 ∧ (cs.foldl (fun s c => addP c t s) s).1 ≤ s.1 + 20001000 * cs.length ∧ s.2 - 20001000 * cs.length ≤ (cs.foldl (fun s c => addP c t s) s).2 ∧ (cs.foldl (fun s c => addP c t s) s).2 ≤ s.2 + 20001000 * cs.length := by
  induction cs with
  | nil => intro s; simp
  | cons c r ih =>
    intro s
    have i := ih (fun c hc => h c (List.mem_cons_of_mem _ hc)) (addP c t s)
    have b := partAt_bd (h c List.mem_cons_self) t
    simp only [List.foldl_cons, List.length_cons]
    simp only [addP] at i ⊢
    push_cast
    omega
theorem levelAt_half {cs : List Con} (h : ∀ c ∈ cs, ConGood c) (hl : cs.length ≤ 12) {mean : Int} (hm1 : -20000 ≤ mean) (hm2 : mean ≤ 20000) (t : Int) : (-300000000 ≤ (levelAt mean cs t).1 ∧ (levelAt mean cs t).1 ≤ 300000000) ∧ (-300000000 ≤ (levelAt mean cs t).2 ∧ (levelAt mean cs t).2 ≤ 300000000) := by
  have := levelAt_bd h t (mean, mean)
  unfold levelAt
  simp only at this
  omega
theorem row_set {w : World} {lb i : Nat} {u v : Value} (x y : Value) (e0 : w.cell? ⟨lb, i * 2, none⟩ = some u) (e1 : w.cell? ⟨lb, i * 2 + 1, none⟩ = some v) :
    ((w.setCell ⟨lb, i * 2, none⟩ x).setCell ⟨lb, i * 2 + 1, none⟩ y).cell? ⟨lb, i * 2, none⟩ = some x ∧ ((w.setCell ⟨lb, i * 2, none⟩ x).setCell ⟨lb, i * 2 + 1, none⟩ y).cell? ⟨lb, i * 2 + 1, none⟩ = some y ∧
    ∀ j, j ≠ i → ((w.setCell ⟨lb, i * 2, none⟩ x).setCell ⟨lb, i * 2 + 1, none⟩ y).cell? ⟨lb, j * 2, none⟩ = w.cell? ⟨lb, j * 2, none⟩ ∧ ((w.setCell ⟨lb, i * 2, none⟩ x).setCell ⟨lb, i * 2 + 1, none⟩ y).cell? ⟨lb, j * 2 + 1, none⟩ = w.cell? ⟨lb, j * 2 + 1, none⟩ := by
  have ne : ∀ a b : Nat, a ≠ b → (⟨lb, a, none⟩ : Addr) ≠ ⟨lb, b, none⟩ := fun a b h e => h (by injection e)
  refine ⟨?_, ?_, fun j hj => ⟨?_, ?_⟩⟩
  · rw [World.cell?_setCell_other _ _ _ _ (ne _ _ (by omega))]; exact World.cell?_setCell_same _ _ _ e0
  · exact World.cell?_setCell_same (u := v) _ _ _ (by rw [World.cell?_setCell_other _ _ _ _ (ne _ _ (by omega))]; exact e1)
  · rw [World.cell?_setCell_other _ _ _ _ (ne _ _ (by omega)), World.cell?_setCell_other _ _ _ _ (ne _ _ (by omega))]
  · rw [World.cell?_setCell_other _ _ _ _ (ne _ _ (by omega)), World.cell?_setCell_other _ _ _ _ (ne _ _ (by omega))]
/-- A store into the i-th row. -/
theorem SpanRow.set {w : World} {lb n i : Nat} {f g : Nat → Int × Int} {u v : Value} (hlo : ∀ j, j < n → j ≠ i → w.cell? ⟨lb, j * 2, none⟩ = some (.int .i64 (f j).1) ∧ w.cell? ⟨lb, j * 2 + 1, none⟩ = some (.int .i64 (f j).2)) (hfr : ∀ o, w.frozen? ⟨lb, o, none⟩ = false)
    (e0 : w.cell? ⟨lb, i * 2, none⟩ = some u) (e1 : w.cell? ⟨lb, i * 2 + 1, none⟩ = some v) (hg : ∀ j, j < n → j ≠ i → g j = f j) :
    SpanRow ((w.setCell ⟨lb, i * 2, none⟩ (.int .i64 (g i).1)).setCell ⟨lb, i * 2 + 1, none⟩ (.int .i64 (g i).2)) lb n g := by
  obtain ⟨h0, h1, h2⟩ := row_set (.int .i64 (g i).1) (.int .i64 (g i).2) e0 e1
  refine ⟨fun j hj => ?_, fun j hj => ?_, fun o => by simpa using hfr o⟩
  · by_cases e : j = i
    · subst e; exact h0
    · rw [(h2 j e).1, hg j hj e]; exact (hlo j hj e).1
  · by_cases e : j = i
    · subst e; exact h1
    · rw [(h2 j e).2, hg j hj e]; exact (hlo j hj e).2

/-- places' function value at a tick; the part there. -/
theorem places1_at (c : Con) (hg : ConGood c) (ha : Option Addr) (hc pb cb : Nat) (t : Int) (w : World) (hpb : pb < w.heap.size) (hcb : cb < w.heap.size) (hne : cb ≠ pb)
    (hbox : ConBox w cb c ha hc) (hcell : w.cell? ⟨pb, 0, none⟩ = some (.int .i64 (placeOf c t))) (hfr : w.frozen? ⟨pb, 0, none⟩ = false) :
    Calls Try.prog 112 #[.pointer (some ⟨pb, 0, none⟩), .pointer (some ⟨cb, 0, none⟩)] w
      fun e w' => e = .returned (.agg #[.int .i64 (placeOf c t / c.den), .int .i64 (placeOf c t % c.den)]) ∧ w.grownBy w' (some pb) ∧ w'.cell? ⟨pb, 0, none⟩ = some (.int .i64 (placeOf c (t + 1))) ∧ w'.frozen? ⟨pb, 0, none⟩ = false := by
  have hp := placeOf_bd hg t
  refine (places1_any c hg ha hc pb cb _ w hp.1 hp.2 hpb hcb hne hbox hcell hfr).mono fun e w' ⟨he, h1, h2, h3⟩ => ⟨he, h1, ?_, h3⟩
  rw [h2, placeOf_next]
theorem part_at (c : Con) (hg : ConGood c) (hb ho hc : Nat) (t : Int) (w : World) (hbs : hb < w.heap.size) (hat : ∀ i (h : i < c.hs.length), w.cell? ⟨hb, ho + i, none⟩ = some (.int .i64 c.hs[i])) :
    Calls Try.prog 97 #[.agg #[.string c.name, .slice (some ⟨hb, ho, none⟩) c.hs.length hc, .int .i64 c.off, .int .i64 c.step, .int .i64 c.den, .int .i64 c.slack], .agg #[.int .i64 (placeOf c t / c.den), .int .i64 (placeOf c t % c.den)]] w
      fun e w' => e = .returned (.agg #[.int .i64 (partAt c t).1, .int .i64 (partAt c t).2]) ∧ Below w.heap.size w w' := by
  have hp := placeOf_bd hg t
  have h3 := hg.den1
  have hq0 : 0 ≤ placeOf c t / c.den := Int.ediv_nonneg hp.1 (by omega)
  have hk : (placeOf c t / c.den).toNat < c.hs.length := by
    have := Int.ediv_lt_of_lt_mul (show 0 < c.den by omega) (show placeOf c t < (c.hs.length : Int) * c.den by rw [Int.mul_comm]; exact hp.2)
    omega
  have := part_any c hg hb ho hc (placeOf c t / c.den).toNat (placeOf c t % c.den) w hk (Int.emod_nonneg _ (by omega)) (Int.emod_lt_of_pos _ (by omega)) hbs hat
  rw [Int.toNat_of_nonneg hq0] at this
  exact this

theorem field_span (x y : Int) (w : World) : (Instr.field 116 (.agg #[.int .i64 x, .int .i64 y]) 0).run Try.prog w = .ok (.agg #[.int .i64 x, .int .i64 y]) w := by kernel_rfl

theorem A.info32 : (Try.prog.info? 32).map (fun i => (i.zero, i.size, i.bytes)) = some (some (.agg #[.int .i64 0, .int .i64 0]), 2, 16) := by kernel_rfl

theorem SpanRow.grown {w w' : World} {lb n pb : Nat} {f : Nat → Int × Int} (h : SpanRow w lb n f) (hg : w.drew.grownBy w' (some pb)) (hl : lb < w.heap.size) (hne : lb ≠ pb) : SpanRow w' lb n f := by
  have hb : w'.heap[lb]? = w.heap[lb]? := hg.block lb hl (by simpa using hne)
  exact ⟨fun i hi => (World.cell?_of_block (w := w) hb).trans (h.lo i hi), fun i hi => (World.cell?_of_block (w := w) hb).trans (h.hi i hi), fun o => (World.frozen?_of_block (w := w) (a := ⟨lb, o, none⟩) hb).trans (h.fr o)⟩
/-- What a round of the inner loop leaves. -/
theorem inner_done {wr W4 w1 w2 w3 : World} {lb pb k x B0 : Nat} {f g : Nat → Int × Int} {S1 S2 : Int} {v : Value} (hlb : lb < wr.heap.size) (hpb : pb < wr.heap.size) (hne : lb ≠ pb) (hx : x < k)
    (hrow : SpanRow wr lb k f) (hgr : wr.drew.grownBy w1 (some pb)) (hb2 : Below w1.heap.size w1 w2) (hb3 : Below w2.heap.size w2 w3) (hp1 : w1.cell? ⟨pb, 0, none⟩ = some v) (hf1 : w1.frozen? ⟨pb, 0, none⟩ = false)
    (hkeep : ∀ B, B < W4.heap.size → B ≠ lb → B ≠ pb → wr.heap[B]? = W4.heap[B]?) (hs : W4.heap.size ≤ wr.heap.size) (hbx : Below B0 W4 wr) (hB0 : B0 ≤ lb) (hB1 : B0 ≤ pb) (hgx : g x = (S1, S2)) (hgo : ∀ j, j < k → j ≠ x → g j = f j) :
    SpanRow ((w3.setCell ⟨lb, x * 2, none⟩ (.int .i64 S1)).setCell ⟨lb, x * 2 + 1, none⟩ (.int .i64 S2)) lb k g ∧
    ((w3.setCell ⟨lb, x * 2, none⟩ (.int .i64 S1)).setCell ⟨lb, x * 2 + 1, none⟩ (.int .i64 S2)).cell? ⟨pb, 0, none⟩ = some v ∧
    ((w3.setCell ⟨lb, x * 2, none⟩ (.int .i64 S1)).setCell ⟨lb, x * 2 + 1, none⟩ (.int .i64 S2)).frozen? ⟨pb, 0, none⟩ = false ∧
    (∀ B, B < W4.heap.size → B ≠ lb → B ≠ pb → ((w3.setCell ⟨lb, x * 2, none⟩ (.int .i64 S1)).setCell ⟨lb, x * 2 + 1, none⟩ (.int .i64 S2)).heap[B]? = W4.heap[B]?) ∧
    Below B0 W4 ((w3.setCell ⟨lb, x * 2, none⟩ (.int .i64 S1)).setCell ⟨lb, x * 2 + 1, none⟩ (.int .i64 S2)) := by
  have s1 := hgr.size
  simp only [World.size_drew] at s1
  have s2 := hb2.size
  have r3 := ((hrow.grown hgr hlb hne).later hb2 (by omega)).later hb3 (by omega)
  have nn : ∀ o, (⟨lb, o, none⟩ : Addr) ≠ ⟨pb, 0, none⟩ := fun o e => hne (by injection e)
  refine ⟨?_, ?_, ?_, fun B hB h1 h2 => ?_, ?_⟩
  · have := SpanRow.set (g := g) (i := x) (fun j hj _ => ⟨r3.lo j hj, r3.hi j hj⟩) r3.fr (r3.lo x hx) (r3.hi x hx) hgo
    rw [hgx] at this
    exact this
  · rw [World.cell?_setCell_other _ _ _ _ (nn _), World.cell?_setCell_other _ _ _ _ (nn _), hb3.cell (p := ⟨pb, 0, none⟩) (by simp; omega), hb2.cell (p := ⟨pb, 0, none⟩) (by simp; omega)]
    exact hp1
  · rw [World.frozen?_setCell, World.frozen?_setCell, hb3.frozen (p := ⟨pb, 0, none⟩) (by simp; omega), hb2.frozen (p := ⟨pb, 0, none⟩) (by simp; omega)]
    exact hf1
  · rw [Below.heap_setCell _ _ _ _ (by simpa using h1), Below.heap_setCell _ _ _ _ (by simpa using h1), hb3.block B (by omega), hb2.block B (by omega)]
    exact (hgr.block B (by simp; omega) (by simpa using h2)).trans (hkeep B hB h1 h2)
  · have hg : Below B0 wr w1 := ⟨hgr.os, hgr.tape, hgr.output, s1, fun B hB => hgr.block B (by simp; omega) (by simp; omega)⟩
    exact (((hbx.trans hg).trans ((hb2.mono (by omega)).trans (hb3.mono (by omega)))).setCell (p := ⟨lb, x * 2, none⟩) hB0 _).setCell (p := ⟨lb, x * 2 + 1, none⟩) hB0 _

set_option maxRecDepth 100000 in
set_option maxHeartbeats 20000000 in
theorem levelsOf_any (mean from_ : Int) (a : Option Addr) (cap n : Nat) (cs : List Con) (w : World) (h : ConsOk w a cap cs) (hg : ∀ c ∈ cs, ConGood c) (hm : -20000 ≤ mean ∧ mean ≤ 20000) (hn : n ≤ 400) (hf : n = 0 ∨ (0 ≤ from_ ∧ from_ + n ≤ 200001)) (hcs : cs.length ≤ 12) :
    Calls Try.prog 60 #[.agg #[.int .i64 mean, .slice a cs.length cap], .int .i64 from_, .int .i64 n] w
      fun e w' => ∃ lb, e = .returned (.slice (some ⟨lb, 0, none⟩) n n) ∧ w.heap.size ≤ lb ∧ lb < w'.heap.size ∧ SpanRow w' lb n (fun i => levelAt mean cs (from_ + i)) ∧ Below w.heap.size w w' := by
  obtain ⟨hm1, hm2⟩ := hm
  have HH := hid h; clear h
  have HG := hid hg; clear hg
  have HFr := hid hf; clear hf
  obtain ⟨i0, hi, hz0, hz1, hz2⟩ := info_parts A.info32
  go_enter Try.func60, Try.ntmps60
  go_wp2_with ((at_make; refine wpList_make_full _ rfl _ _ _ rfl (w.heap.size + 1) 32 i0 (.agg #[.int .i64 0, .int .i64 0]) 2 Try.underlying35 hi hz0 hz1 .i64 .i64 _ _ n rfl rfl rfl rfl (by rw [hz2]; omega) (by unfold maxLen; omega) (by simp) ?_; intro W2 hown hgrow))
  have S2 : w.heap.size + 1 < W2.heap.size := by have := (hown.lt _ rfl).2; simpa using this
  have B1 : Below w.heap.size w W2 := ((Below.refl _ _).alloc (Nat.le_refl _) _).grown hgrow (by simp) (by intro k e; cases e)
  have t0 : W2.cell? ⟨w.heap.size, 0, none⟩ = some (.int .i64 mean) := hgrow.cell (by simp [go_sem]) (by simp)
  have t1 : W2.cell? ⟨w.heap.size, 1, none⟩ = some (.slice a cs.length cap) := hgrow.cell (by simp [go_sem]) (by simp)
  simp only [World.size_alloc] at hown
  have hex : ∀ j, j < n * 2 → ∃ v, W2.cell? ⟨w.heap.size + 1, j, none⟩ = some v := fun j hj => by
    rw [hown.cellAt j hj]; exact ⟨_, List.getElem?_eq_getElem (by rw [hown.1]; exact hj)⟩
  have hfz : ∀ o, W2.frozen? ⟨w.heap.size + 1, o, none⟩ = false := fun o => hown.frozenAt o
  have HX := hid hex
  have HF := hid hfz
  clear hex hfz hown hgrow hi hz0 hz1 hz2
  go_loopw [8, 17] (fun _ i wr => ∃ k : Nat, k ≤ n ∧ i = .int .i64 k ∧ Hid (SpanRow wr (w.heap.size + 1) k (fun _ => (mean, mean))) ∧ Hid (∀ j, j < n * 2 → ∃ v, wr.cell? ⟨w.heap.size + 1, j, none⟩ = some v) ∧ Below (w.heap.size + 1) W2 wr) (fun _ i _ => n - (intOf i).toNat)
  case atStart => exact ⟨0, Nat.zero_le _, rfl, hid ⟨fun i h => absurd h (Nat.not_lt_zero _), fun i h => absurd h (Nat.not_lt_zero _), HF.out⟩, HX, Below.refl _ _⟩
  case round =>
    obtain ⟨k, hk, rfl, hrow, hex, hbw⟩ := hrel
    have e0 := (hbw.cell (p := ⟨w.heap.size, 0, none⟩) (by simp)).trans t0
    have e1 := (hbw.cell (p := ⟨w.heap.size, 1, none⟩) (by simp)).trans t1
    have hsz := hbw.size
    by_cases hlt : k < n
    · obtain ⟨v0, hv0⟩ := hex.out (k * 2) (by omega)
      obtain ⟨v1, hv1⟩ := hex.out (k * 2 + 1) (by omega)
      have z0 := hrow.out.fr (k * 2)
      have z1 := hrow.out.fr (k * 2 + 1)
      clear t0 t1
      go_wp2_with fail
      refine ⟨⟨k + 1, by omega, by go_num, hid ?_, hid ?_, ?_⟩, by simp [intOf]; omega⟩
      · exact SpanRow.set (f := fun _ => (mean, mean)) (g := fun _ => (mean, mean)) (fun j hj hne => ⟨hrow.out.lo j (by omega), hrow.out.hi j (by omega)⟩) hrow.out.fr hv0 hv1 (fun _ _ _ => rfl)
      · intro j hj
        obtain ⟨v, hv⟩ := hex.out j hj
        obtain ⟨v', hv'⟩ := cell?_setCell_some (p := ⟨w.heap.size + 1, k * 2, none⟩) (x := .int .i64 mean) hv
        exact cell?_setCell_some hv'
      · exact (hbw.setCell (p := ⟨w.heap.size + 1, k * 2, none⟩) (Nat.le_refl _) _).setCell (p := ⟨w.heap.size + 1, k * 2 + 1, none⟩) (Nat.le_refl _) _
    · obtain rfl : k = n := by omega
      clear hex HX HF t0 t1
      obtain ⟨V1, rfl⟩ : ∃ V : World, V = wr := ⟨_, rfl⟩
      have T0 := hid e0; have T1 := hid e1
      clear e0
      go_wp2_with fail
      clear e1
      go_loopw [10, 11, 12, 32] (fun _ _ _ i wr => ∃ j : Nat, j ≤ cs.length ∧ i = .int .i64 j ∧ Hid (SpanRow wr (w.heap.size + 1) k (fun x => levelAt mean (cs.take j) (from_ + x))) ∧ Below (w.heap.size + 1) V1 wr) (fun _ _ _ i _ => cs.length - (intOf i).toNat)
      case atStart => exact ⟨0, Nat.zero_le _, rfl, hid ⟨hrow.out.lo, hrow.out.hi, hrow.out.fr⟩, Below.refl _ _⟩
      case round =>
        obtain ⟨j, hj, rfl, hrowj, hbj⟩ := hrel
        have hszj := hbj.size
        have hbl : Below w.heap.size w wr := B1.trans ((hbw.mono (by omega)).trans (hbj.mono (by omega)))
        by_cases hltj : j < cs.length
        · rcases HH.out.at_ with h0 | ⟨b, o, rfl, hs, hcon⟩
          · subst h0; simp at hltj
          obtain ⟨hha, hhc, hca⟩ := hcon j hltj
          obtain ⟨c0, c1, c2, c3, c4, c5, _⟩ := hca.later hs hbl (Nat.le_refl _)
          have chs := hca.hs
          have hgood := HG.out cs[j] (List.getElem_mem _)
          have HS := hid (fun t => levelAt_snoc mean cs t j hltj)
          have HGd := hid hgood; clear hgood
          have HIs := hid chs; clear chs hcon hca
          generalize cs[j] = c at *
          have hgl := HGd.out.len1
          have hgl2 := HGd.out.len2
          rcases HIs.out with h0 | ⟨hb, ho, rfl, hbs, hcells⟩
          · rw [h0] at hgl; simp at hgl
          have HC := hid hcells; clear hcells HIs
          obtain ⟨V2, rfl⟩ : ∃ V : World, V = wr := ⟨_, rfl⟩
          go_wp2_with fail
          generalize hW3 : World.alloc V2 _ = W3
          have B3 : Below V2.heap.size V2 W3 := by rw [← hW3]; exact (Below.refl _ _).alloc (Nat.le_refl _) _
          have S3 : V2.heap.size < W3.heap.size := by rw [← hW3]; simp
          have d0 : W3.cell? ⟨V2.heap.size, 0, none⟩ = some (.string c.name) := by rw [← hW3]; simp [go_sem]
          have d1 : W3.cell? ⟨V2.heap.size, 1, none⟩ = some (.slice (some ⟨hb, ho, none⟩) c.hs.length hhc) := by rw [← hW3]; simp [go_sem]
          have d2 : W3.cell? ⟨V2.heap.size, 2, none⟩ = some (.int .i64 c.off) := by rw [← hW3]; simp [go_sem]
          have d3 : W3.cell? ⟨V2.heap.size, 3, none⟩ = some (.int .i64 c.step) := by rw [← hW3]; simp [go_sem]
          have d4 : W3.cell? ⟨V2.heap.size, 4, none⟩ = some (.int .i64 c.den) := by rw [← hW3]; simp [go_sem]
          have d5 : W3.cell? ⟨V2.heap.size, 5, none⟩ = some (.int .i64 c.slack) := by rw [← hW3]; simp [go_sem]
          clear hW3 c0 c1 c2 c3 c4 c5
          refine (places_any c HGd.out _ _ _ _).mono ?_
          rintro e W4 ⟨pb, cb, rfl, B4, ⟨hpb1, hpb2⟩, ⟨hcb1, hcb2⟩, hne, hbox, hpc, hpf⟩
          have HBx := hid hbox; clear hbox
          have D0 := hid ((B4.cell (p := ⟨V2.heap.size, 0, none⟩) S3).trans d0)
          have D1 := hid ((B4.cell (p := ⟨V2.heap.size, 1, none⟩) S3).trans d1)
          have D2 := hid ((B4.cell (p := ⟨V2.heap.size, 2, none⟩) S3).trans d2)
          have D3 := hid ((B4.cell (p := ⟨V2.heap.size, 3, none⟩) S3).trans d3)
          have D4 := hid ((B4.cell (p := ⟨V2.heap.size, 4, none⟩) S3).trans d4)
          have D5 := hid ((B4.cell (p := ⟨V2.heap.size, 5, none⟩) S3).trans d5)
          have HPc := hid hpc; clear hpc
          have HPf := hid hpf; clear hpf
          clear d0 d1 d2 d3 d4 d5
          have B24 : Below V2.heap.size V2 W4 := B3.trans (B4.mono (by omega))
          have s4 := B4.size
          go_wp2_with fail
          go_loopw [12, 41] (fun _ i wr => ∃ x : Nat, x ≤ k ∧ i = .int .i64 x ∧
              Hid (SpanRow wr (w.heap.size + 1) k (fun y => if y < x then levelAt mean (cs.take (j + 1)) (from_ + y) else levelAt mean (cs.take j) (from_ + y))) ∧
              Hid (x < k → wr.cell? ⟨pb, 0, none⟩ = some (.int .i64 (placeOf c (from_ + x)))) ∧ Hid (wr.frozen? ⟨pb, 0, none⟩ = false) ∧
              (∀ B, B < W4.heap.size → B ≠ w.heap.size + 1 → B ≠ pb → wr.heap[B]? = W4.heap[B]?) ∧ Below (w.heap.size + 1) W4 wr) (fun _ i _ => k - (intOf i).toNat)
          case atStart =>
            refine ⟨0, Nat.zero_le _, rfl, hid ?_, hid ?_, HPf, fun B _ _ _ => rfl, Below.refl _ _⟩
            · exact (hrowj.out.later B24 (by omega)).congr (fun i _ => by rw [if_neg (by omega)])
            · intro hk0
              rw [HPc.out, placeQ_eq HGd.out (by rcases HFr.out with h | h <;> omega) (by rcases HFr.out with h | h <;> omega)]; simp
          case round =>
            obtain ⟨x, hx, rfl, hrx, hpx, hfx, hkeep, hbx⟩ := hrel
            by_cases hltx : x < k
            · have hx2 := hbx.size
              have l0 := hrx.out.lo x hltx
              have l1 := hrx.out.hi x hltx
              have lf0 := hrx.out.fr (x * 2)
              have lf1 := hrx.out.fr (x * 2 + 1)
              simp only [Nat.lt_irrefl, if_false] at l0 l1
              have hob : ∀ o, wr.cell? ⟨V2.heap.size, o, none⟩ = W4.cell? ⟨V2.heap.size, o, none⟩ := fun o => World.cell?_of_block (hkeep V2.heap.size (by omega) (by omega) (by omega))
              have hcbk : ∀ o, wr.cell? ⟨cb, o, none⟩ = W4.cell? ⟨cb, o, none⟩ := fun o => World.cell?_of_block (hkeep cb (by omega) (by omega) (by omega))
              have o0 := (hob _).trans D0.out; have o1 := (hob _).trans D1.out; have o2 := (hob _).trans D2.out; have o3 := (hob _).trans D3.out; have o4 := (hob _).trans D4.out; have o5 := (hob _).trans D5.out
              have hbx' : ConBox wr cb c (some ⟨hb, ho, none⟩) hhc := ⟨(hcbk _).trans HBx.out.c0, (hcbk _).trans HBx.out.c1, (hcbk _).trans HBx.out.c2, (hcbk _).trans HBx.out.c3, (hcbk _).trans HBx.out.c4, (hcbk _).trans HBx.out.c5⟩
              have hcl : ∀ i (h : i < c.hs.length), wr.cell? ⟨hb, ho + i, none⟩ = some (.int .i64 c.hs[i]) := fun i hi => (hbx.cell (p := ⟨hb, ho + i, none⟩) (by simp; omega)).trans ((B24.cell (p := ⟨hb, ho + i, none⟩) (by simp; omega)).trans ((hbl.cell (p := ⟨hb, ho + i, none⟩) hbs).trans (HC.out i hi)))
              have HP1 := hid (places1_at c HGd.out (some ⟨hb, ho, none⟩) hhc pb cb (from_ + x) wr.drew (by simp; omega) (by simp; omega) hne ⟨hbx'.c0, hbx'.c1, hbx'.c2, hbx'.c3, hbx'.c4, hbx'.c5⟩ (hpx.out hltx) hfx.out)
              have HCl := hid hcl
              have hsb := levelAt_half (cs := cs.take j) (fun c hc => HG.out c (List.mem_of_mem_take hc)) (by simp; omega) hm1 hm2 (from_ + x)
              have hqb := partAt_bd HGd.out (from_ + x)
              have HSx := hid (HS.out (from_ + x))
              clear hob hcbk hbx' hcl
              have HKp := hid hkeep; clear hkeep
              generalize levelAt mean (cs.take j) (from_ + (x : Int)) = s at *
              obtain ⟨⟨hs1, hs2⟩, ⟨hs3, hs4⟩⟩ := hsb
              obtain ⟨⟨hq1, hq2⟩, ⟨hq3, hq4⟩⟩ := hqb
              have h1 : Half s.1 := ⟨by omega, by omega⟩
              have h2 : Half s.2 := ⟨by omega, by omega⟩
              have h3 : Half (partAt c (from_ + x)).1 := ⟨by omega, by omega⟩
              have h4 : Half (partAt c (from_ + x)).2 := ⟨by omega, by omega⟩
              have xk : (x : Int) < (k : Int) := by omega
              go_wp2_with fail
              have hfld := field_span
              go_region_with (first
                | (go_at_call 112; refine HP1.out.mono ?_; rintro e w1 ⟨rfl, hgr, hpc1, hpf1⟩
                   have y0 := hgr.cell (a := ⟨w.heap.size + 1, x * 2, none⟩) l0 (by simp; omega); have y1 := hgr.cell (a := ⟨w.heap.size + 1, x * 2 + 1, none⟩) l1 (by simp; omega)
                   have z0 := hgr.cell (a := ⟨V2.heap.size, 0, none⟩) o0 (by simp; omega); have z1 := hgr.cell (a := ⟨V2.heap.size, 1, none⟩) o1 (by simp; omega); have z2 := hgr.cell (a := ⟨V2.heap.size, 2, none⟩) o2 (by simp; omega); have z3 := hgr.cell (a := ⟨V2.heap.size, 3, none⟩) o3 (by simp; omega); have z4 := hgr.cell (a := ⟨V2.heap.size, 4, none⟩) o4 (by simp; omega); have z5 := hgr.cell (a := ⟨V2.heap.size, 5, none⟩) o5 (by simp; omega)
                   have gsz : wr.heap.size ≤ w1.heap.size := hgr.size)
                | (go_at_call 97; refine (part_at c HGd.out hb ho hhc _ w1 (by omega) (fun i hi => (hgr.cell (a := ⟨hb, ho + i, none⟩) (HCl.out i hi) (by simp; omega)))).mono ?_; rintro e w2 ⟨rfl, hb2⟩
                   have u0 := (hb2.cell (p := ⟨w.heap.size + 1, x * 2, none⟩) (by simp; omega)).trans y0; have u1 := (hb2.cell (p := ⟨w.heap.size + 1, x * 2 + 1, none⟩) (by simp; omega)).trans y1)
                | (go_at_call 96; refine (plus_any _ _ _ _ w2 h1 h2 h3 h4).mono ?_; rintro e w3 ⟨rfl, hb3⟩
                   have gs2 := hb2.size
                   have q0 := (hb3.cell (p := ⟨w.heap.size + 1, x * 2, none⟩) (by simp; omega)).trans u0; have q1 := (hb3.cell (p := ⟨w.heap.size + 1, x * 2 + 1, none⟩) (by simp; omega)).trans u1
                   have f0 : w3.frozen? ⟨w.heap.size + 1, x * 2, none⟩ = false := (hb3.frozen (p := ⟨w.heap.size + 1, x * 2, none⟩) (by simp; omega)).trans ((hb2.frozen (p := ⟨w.heap.size + 1, x * 2, none⟩) (by simp; omega)).trans ((World.frozen?_of_block (hgr.block (w.heap.size + 1) (by simp; omega) (by simp; omega))).trans lf0))
                   have f1 : w3.frozen? ⟨w.heap.size + 1, x * 2 + 1, none⟩ = false := (hb3.frozen (p := ⟨w.heap.size + 1, x * 2 + 1, none⟩) (by simp; omega)).trans ((hb2.frozen (p := ⟨w.heap.size + 1, x * 2 + 1, none⟩) (by simp; omega)).trans ((World.frozen?_of_block (hgr.block (w.heap.size + 1) (by simp; omega) (by simp; omega))).trans lf1))))
              all_goals
                obtain ⟨R1, R2, R3, R4, R5⟩ := inner_done (g := fun y => if y < x + 1 then levelAt mean (cs.take (j + 1)) (from_ + y) else levelAt mean (cs.take j) (from_ + y)) (by omega) (by omega) (by omega) hltx hrx.out hgr hb2 hb3 hpc1 hpf1 HKp.out hx2 hbx (by omega) (by omega)
                  (show _ = (s.1 + (partAt c (from_ + x)).1, s.2 + (partAt c (from_ + x)).2) by rw [if_pos (Nat.lt_succ_self _), HSx.out]; rfl)
                  (fun y hy hne => by by_cases h : y < x; rw [if_pos (by omega), if_pos h]; rw [if_neg (by omega), if_neg h])
                have R1' := hid R1; have R2' := hid R2; have R3' := hid R3; have R4' := hid R4; clear R1 R2 R3 R4
                go_wp2_with fail
                refine ⟨⟨x + 1, by omega, by go_num, R1', hid (fun _ => by rw [R2'.out, show from_ + ((x + 1 : Nat) : Int) = from_ + x + 1 by omega]), R3', R4'.out, R5⟩, by simp [intOf]; omega⟩
            · obtain rfl : x = k := by omega
              go_wp2_with fail
              refine ⟨⟨j + 1, by omega, by go_num, hid (hrx.out.congr fun i hi => by rw [if_pos hi]), ?_⟩, by simp [intOf]; omega⟩
              exact hbj.trans ((B24.mono (by omega)).trans hbx)
        · obtain rfl : j = cs.length := by omega
          have HR := hid (show SpanRow wr (w.heap.size + 1) k (fun i => levelAt mean cs (from_ + i)) by have := hrowj.out; rwa [List.take_length] at this)
          go_wp2_with fail
          go_ret
          exact ⟨w.heap.size + 1, rfl, by omega, by omega, HR.out, hbl⟩
end Go.Proofs.Ytblneiegekdnjaa
