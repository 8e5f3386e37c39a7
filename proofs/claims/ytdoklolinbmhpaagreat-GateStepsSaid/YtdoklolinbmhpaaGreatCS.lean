/- Gate, part CR: the reference's Run. -/
import Derived.Test.YtdoklolinbmhpaaGreatCI
import Derived.Test.YtdoklolinbmhpaaGreatYB
import Derived.Test.YtdoklolinbmhpaaGreatUK
import Derived.Test.YtdoklolinbmhpaaGreatWE
set_option linter.all false
namespace Go.Proofs.YtdoklolinbmhpaaGreat
open Go.RowKit

theorem runE_eq (g : Gt) (s : St) (l : List Sp) : runE g s l = if gtE g ≠ 0 then gtE g else if ¬ ((l.length : Int) ≤ 2000) then 3 else if stE g s ≠ 0 then stE g s else (eachP (fun i => ordE (l.getD i default)) 0 l.length).2 := by
  unfold runE
  generalize eachP (fun i => ordE (l.getD i default)) 0 l.length = x
  obtain ⟨a, b⟩ := x
  by_cases h1 : gtE g = 0
  · by_cases h2 : (l.length : Int) ≤ 2000
    · by_cases h3 : stE g s = 0
      · by_cases h4 : b = 0 <;> simp [firstAt, mustP, h1, h2, h3, h4]
      · simp [firstAt, mustP, h1, h2, h3]
    · simp [firstAt, mustP, h1, h2]
  · simp [firstAt, h1]
/-- The two boxes of Run in memory; the state's box may be written. -/
structure RuW (w : World) (g : Gt) (p : GtP) (x : World) : Prop where
  below : Below w.heap.size w x
  lt : w.heap.size + 1 < x.heap.size
  rows : x.rangeAt w.heap.size 0 (gtL g p)
  fs : ∀ o, x.frozen? ⟨w.heap.size + 1, o, none⟩ = false
  s0 : ∃ z, x.cell? ⟨w.heap.size + 1, 0, none⟩ = some z
  s1 : ∃ z, x.cell? ⟨w.heap.size + 1, 1, none⟩ = some z
  s2 : ∃ z, x.cell? ⟨w.heap.size + 1, 2, none⟩ = some z
theorem RuW.later {w x y : World} {g : Gt} {p : GtP} (h : RuW w g p x) (hb : Below x.heap.size x y) : RuW w g p y := by
  have hl := h.lt
  have c : ∀ o, y.cell? ⟨w.heap.size + 1, o, none⟩ = x.cell? ⟨w.heap.size + 1, o, none⟩ := fun o => hb.cell (p := ⟨w.heap.size + 1, o, none⟩) (by show w.heap.size + 1 < _; omega)
  exact ⟨bthen h.below hb, Nat.lt_of_lt_of_le hl hb.size, range_later h.rows hb (by omega), fun o => (hb.frozen (p := ⟨w.heap.size + 1, o, none⟩) (by show w.heap.size + 1 < x.heap.size; omega)).trans (h.fs o), by rw [c]; exact h.s0, by rw [c]; exact h.s1, by rw [c]; exact h.s2⟩
theorem RuW.drew {w x : World} {g : Gt} {p : GtP} (h : RuW w g p x) : RuW w g p x.drew :=
  ⟨h.below.drew, by simpa using h.lt, fun j v hv => by simpa using h.rows j v hv, fun o => by simpa using h.fs o, by simpa using h.s0, by simpa using h.s1, by simpa using h.s2⟩
theorem RuW.start (w : World) (g : Gt) (p : GtP) (s : St) : RuW w g p ((w.alloc (.cells (gtL g p).toArray 25)).alloc (.cells #[.int .i64 s.pos, .int .i64 s.charge, .bool s.bolted] 27)) := by
  have H := DrW.start w g p s
  have f1 : ∀ o, ((w.alloc (.cells (gtL g p).toArray 25)).alloc (.cells #[.int .i64 s.pos, .int .i64 s.charge, .bool s.bolted] 27)).frozen? ⟨w.heap.size + 1, o, none⟩ = false := fun o => by simp [go_sem]
  exact ⟨H.below, H.lt, H.rows, f1, ⟨_, range_cell H.ss (show (stL s)[0]? = some (.int .i64 s.pos) from rfl)⟩, ⟨_, range_cell H.ss (show (stL s)[1]? = some (.int .i64 s.charge) from rfl)⟩, ⟨_, range_cell H.ss (show (stL s)[2]? = some (.bool s.bolted) from rfl)⟩⟩
/-- The state's box is written. -/
theorem RuW.set {w x : World} {g : Gt} {p : GtP} (h : RuW w g p x) (v0 v1 v2 : Value) : RuW w g p (((x.setCell ⟨w.heap.size + 1, 0, none⟩ v0).setCell ⟨w.heap.size + 1, 1, none⟩ v1).setCell ⟨w.heap.size + 1, 2, none⟩ v2) ∧
    (((x.setCell ⟨w.heap.size + 1, 0, none⟩ v0).setCell ⟨w.heap.size + 1, 1, none⟩ v1).setCell ⟨w.heap.size + 1, 2, none⟩ v2).rangeAt (w.heap.size + 1) 0 [v0, v1, v2] := by
  have o : ∀ b j, b ≠ w.heap.size + 1 → (((x.setCell ⟨w.heap.size + 1, 0, none⟩ v0).setCell ⟨w.heap.size + 1, 1, none⟩ v1).setCell ⟨w.heap.size + 1, 2, none⟩ v2).cell? ⟨b, j, none⟩ = x.cell? ⟨b, j, none⟩ := fun b j hb => (cs_o (.inl hb)).trans ((cs_o (.inl hb)).trans (cs_o (.inl hb)))
  have a0 : (((x.setCell ⟨w.heap.size + 1, 0, none⟩ v0).setCell ⟨w.heap.size + 1, 1, none⟩ v1).setCell ⟨w.heap.size + 1, 2, none⟩ v2).cell? ⟨w.heap.size + 1, 0, none⟩ = some v0 := (cs_o (.inr (by omega))).trans ((cs_o (.inr (by omega))).trans (cs_s h.s0))
  have a1 : (((x.setCell ⟨w.heap.size + 1, 0, none⟩ v0).setCell ⟨w.heap.size + 1, 1, none⟩ v1).setCell ⟨w.heap.size + 1, 2, none⟩ v2).cell? ⟨w.heap.size + 1, 1, none⟩ = some v1 := (cs_o (.inr (by omega))).trans (cs_s (cell_ex h.s1))
  have a2 : (((x.setCell ⟨w.heap.size + 1, 0, none⟩ v0).setCell ⟨w.heap.size + 1, 1, none⟩ v1).setCell ⟨w.heap.size + 1, 2, none⟩ v2).cell? ⟨w.heap.size + 1, 2, none⟩ = some v2 := cs_s (cell_ex (cell_ex h.s2))
  refine ⟨⟨((h.below.setCell (by show w.heap.size ≤ w.heap.size + 1; omega) _).setCell (by show w.heap.size ≤ w.heap.size + 1; omega) _).setCell (by show w.heap.size ≤ w.heap.size + 1; omega) _, by simpa using h.lt, fun j v hv => (o _ _ (by omega)).trans (h.rows j v hv), fun o => by simpa using h.fs o, ⟨_, a0⟩, ⟨_, a1⟩, ⟨_, a2⟩⟩, fun j v hv => ?_⟩
  have hj : j < 3 := (List.getElem?_eq_some_iff.1 hv).1
  rw [Nat.zero_add]
  match j, hj with
  | 0, _ => rw [a0]; simpa using hv
  | 1, _ => rw [a1]; simpa using hv
  | 2, _ => rw [a2]; simpa using hv
theorem RuW.laterB {w x y : World} {g : Gt} {p : GtP} {B : Nat} (h : RuW w g p x) (hb : Below B x y) (hB : w.heap.size + 1 < B) : RuW w g p y := by
  have hl := h.lt
  have c : ∀ o, y.cell? ⟨w.heap.size + 1, o, none⟩ = x.cell? ⟨w.heap.size + 1, o, none⟩ := fun o => hb.cell (p := ⟨w.heap.size + 1, o, none⟩) hB
  exact ⟨h.below.trans (hb.mono (by omega)), Nat.lt_of_lt_of_le hl hb.size, range_later h.rows hb (by omega), fun o => (hb.frozen (p := ⟨w.heap.size + 1, o, none⟩) hB).trans (h.fs o), by rw [c]; exact h.s0, by rw [c]; exact h.s1, by rw [c]; exact h.s2⟩
theorem size_set3 {w x : World} {X : Nat} (h : X ≤ x.heap.size) (v0 v1 v2 : Value) : X ≤ (((x.setCell ⟨w.heap.size + 1, 0, none⟩ v0).setCell ⟨w.heap.size + 1, 1, none⟩ v1).setCell ⟨w.heap.size + 1, 2, none⟩ v2).heap.size := by simpa using h
theorem keepR1 {w wr x y : World} {g : Gt} {p : GtP} {st : St} {t : Sp} {b o k : Nat} (hb0 : b < wr.heap.size) (hb : Below x.heap.size x y) (h : RuW w g p x ∧ Below wr.heap.size wr x ∧ x.cell? ⟨w.heap.size + 1, 0, none⟩ = some (.int .i64 st.pos) ∧ x.cell? ⟨w.heap.size + 1, 1, none⟩ = some (.int .i64 st.charge) ∧ x.cell? ⟨w.heap.size + 1, 2, none⟩ = some (.bool st.bolted) ∧ x.cell? ⟨b, o + k * 4, none⟩ = some (.int .i64 t.order) ∧ x.cell? ⟨b, o + k * 4 + 1, none⟩ = some (.bool t.power) ∧ x.cell? ⟨b, o + k * 4 + 2, none⟩ = some (.int .i64 t.outer) ∧ x.cell? ⟨b, o + k * 4 + 3, none⟩ = some (.int .i64 t.inner)) : RuW w g p y ∧ Below wr.heap.size wr y ∧ y.cell? ⟨w.heap.size + 1, 0, none⟩ = some (.int .i64 st.pos) ∧ y.cell? ⟨w.heap.size + 1, 1, none⟩ = some (.int .i64 st.charge) ∧ y.cell? ⟨w.heap.size + 1, 2, none⟩ = some (.bool st.bolted) ∧ y.cell? ⟨b, o + k * 4, none⟩ = some (.int .i64 t.order) ∧ y.cell? ⟨b, o + k * 4 + 1, none⟩ = some (.bool t.power) ∧ y.cell? ⟨b, o + k * 4 + 2, none⟩ = some (.int .i64 t.outer) ∧ y.cell? ⟨b, o + k * 4 + 3, none⟩ = some (.int .i64 t.inner) := by
  have hl := h.1.lt
  have hs := h.2.1.size
  have c : ∀ d j, d < x.heap.size → y.cell? ⟨d, j, none⟩ = x.cell? ⟨d, j, none⟩ := fun d j hd => hb.cell (p := ⟨d, j, none⟩) hd
  obtain ⟨h1, h2, h3, h4, h5, h6, h7, h8, h9⟩ := h
  exact ⟨h1.later hb, h2.trans (hb.mono hs), (c _ _ hl).trans h3, (c _ _ hl).trans h4, (c _ _ hl).trans h5, (c _ _ (by omega)).trans h6, (c _ _ (by omega)).trans h7, (c _ _ (by omega)).trans h8, (c _ _ (by omega)).trans h9⟩
theorem keepR3 {w x y : World} {g : Gt} {p : GtP} {t : Sp} {b o k : Nat} (hbx : b < x.heap.size) (hb : Below x.heap.size x y) (h : RuW w g p x ∧ x.cell? ⟨b, o + k * 4, none⟩ = some (.int .i64 t.order) ∧ x.cell? ⟨b, o + k * 4 + 1, none⟩ = some (.bool t.power) ∧ x.cell? ⟨b, o + k * 4 + 2, none⟩ = some (.int .i64 t.outer) ∧ x.cell? ⟨b, o + k * 4 + 3, none⟩ = some (.int .i64 t.inner)) : RuW w g p y ∧ y.cell? ⟨b, o + k * 4, none⟩ = some (.int .i64 t.order) ∧ y.cell? ⟨b, o + k * 4 + 1, none⟩ = some (.bool t.power) ∧ y.cell? ⟨b, o + k * 4 + 2, none⟩ = some (.int .i64 t.outer) ∧ y.cell? ⟨b, o + k * 4 + 3, none⟩ = some (.int .i64 t.inner) := by
  have c : ∀ d j, d < x.heap.size → y.cell? ⟨d, j, none⟩ = x.cell? ⟨d, j, none⟩ := fun d j hd => hb.cell (p := ⟨d, j, none⟩) hd
  obtain ⟨h1, h6, h7, h8, h9⟩ := h
  exact ⟨h1.later hb, (c _ _ hbx).trans h6, (c _ _ hbx).trans h7, (c _ _ hbx).trans h8, (c _ _ hbx).trans h9⟩
theorem setR3 {w x : World} {g : Gt} {p : GtP} {t : Sp} {b o k : Nat} (hbx : b < w.heap.size) (v0 v1 v2 : Value) (h : RuW w g p x ∧ x.cell? ⟨b, o + k * 4, none⟩ = some (.int .i64 t.order) ∧ x.cell? ⟨b, o + k * 4 + 1, none⟩ = some (.bool t.power) ∧ x.cell? ⟨b, o + k * 4 + 2, none⟩ = some (.int .i64 t.outer) ∧ x.cell? ⟨b, o + k * 4 + 3, none⟩ = some (.int .i64 t.inner)) : RuW w g p (((x.setCell ⟨w.heap.size + 1, 0, none⟩ v0).setCell ⟨w.heap.size + 1, 1, none⟩ v1).setCell ⟨w.heap.size + 1, 2, none⟩ v2) ∧ (((x.setCell ⟨w.heap.size + 1, 0, none⟩ v0).setCell ⟨w.heap.size + 1, 1, none⟩ v1).setCell ⟨w.heap.size + 1, 2, none⟩ v2).cell? ⟨b, o + k * 4, none⟩ = some (.int .i64 t.order) ∧ (((x.setCell ⟨w.heap.size + 1, 0, none⟩ v0).setCell ⟨w.heap.size + 1, 1, none⟩ v1).setCell ⟨w.heap.size + 1, 2, none⟩ v2).cell? ⟨b, o + k * 4 + 1, none⟩ = some (.bool t.power) ∧ (((x.setCell ⟨w.heap.size + 1, 0, none⟩ v0).setCell ⟨w.heap.size + 1, 1, none⟩ v1).setCell ⟨w.heap.size + 1, 2, none⟩ v2).cell? ⟨b, o + k * 4 + 2, none⟩ = some (.int .i64 t.outer) ∧ (((x.setCell ⟨w.heap.size + 1, 0, none⟩ v0).setCell ⟨w.heap.size + 1, 1, none⟩ v1).setCell ⟨w.heap.size + 1, 2, none⟩ v2).cell? ⟨b, o + k * 4 + 3, none⟩ = some (.int .i64 t.inner) := by
  have c : ∀ j, (((x.setCell ⟨w.heap.size + 1, 0, none⟩ v0).setCell ⟨w.heap.size + 1, 1, none⟩ v1).setCell ⟨w.heap.size + 1, 2, none⟩ v2).cell? ⟨b, j, none⟩ = x.cell? ⟨b, j, none⟩ := fun j => (cs_o (.inl (by omega))).trans ((cs_o (.inl (by omega))).trans (cs_o (.inl (by omega))))
  obtain ⟨h1, h6, h7, h8, h9⟩ := h
  exact ⟨(h1.set v0 v1 v2).1, (c _).trans h6, (c _).trans h7, (c _).trans h8, (c _).trans h9⟩
set_option maxRecDepth 100000 in
set_option maxHeartbeats 16000000 in
theorem rRun_any (g : Gt) (p : GtP) (s : St) (ta : Option Addr) (ts : List Sp) (tcp n : Nat) (w : World) (hn : ts.length = n) (hn8 : n ≤ 140737488355328) (hok : GtOk w p g) (hts : RowsL (fun _ s => spL s) 4 w ta ts) :
    Calls Tryz.prog 11 #[.agg (gtL g p).toArray, .agg #[.int .i64 s.pos, .int .i64 s.charge, .bool s.bolted], .slice ta n tcp] w fun e w' => ∃ a c, e = .returned (.tuple #[.slice a (runL g s ts).length c, .int .i64 (runE g s ts)]) ∧ RowsL (fun _ s => stL s) 3 w' a (runL g s ts) ∧ Below w.heap.size w w' := by
  have HE := hid (runE_eq g s ts)
  obtain ⟨f, hf⟩ : ∃ f : Nat → Int, (fun i => ordE (ts.getD i default)) = f := ⟨_, rfl⟩
  rw [hf, hn] at HE
  have HF := hid hf
  clear hf
  have HL := hid (show runL g s ts = if runE g s ts = 0 then scanF g s ts else [] from rfl)
  have HGd := hid (fun h => gtGood (g := g) h)
  have HSd := hid (fun h => stGood (g := g) (s := s) h)
  have HOk := hid hok; have HTs := hid hts; have HLn := hid hn
  have HSt := hid (fun W => rstate_any g p s W)
  have H0 := RuW.start w g p s
  have HSs := (DrW.start w g p s).ss
  obtain ⟨i0, hi, hz0, hz1, hz2⟩ := info_parts Tryz.infoSt
  clear hok hts hn
  go_enter Tryz.func11, Tryz.ntmps11
  go_upto_region 1 with fail
  generalize World.alloc (World.alloc w _) _ = W1 at *
  have H1 := hid H0
  have HS1 := hid HSs
  clear H0 HSs
  have R := H1.out.rows
  go_wp2_with (refine wpList_load_mid rfl 25 _ rfl _ 0 rfl (gtL g p) _ (R) Tryz.underlying25 rfl (by kernel_rfl) ?_)
  refine (rcheck_any g p _ (HOk.out.later H1.out.below (Nat.le_refl _))).mono ?_
  rintro e w2 ⟨rfl, hb⟩
  have H2 := hid (H1.out.later hb)
  have HS2 := hid (range_later HS1.out hb H1.out.lt)
  clear R H1 HS1 hb
  obtain ⟨k1, k2, ge, hge⟩ : ∃ a b c, gtP g = (a, b, c) := ⟨_, _, _, rfl⟩
  have hgE : gtE g = ge := by unfold gtE; rw [hge]
  rw [hge]
  rw [hgE] at HE HGd
  clear hge hgE
  dsimp only
  by_cases hx : ge = 0
  · have q : (ge == 0) = true := by simp [hx]
    have HG := hid (HGd.out hx)
    rw [if_neg (by simp [hx])] at HE
    clear hx HGd
    by_cases h2k : n ≤ 2000
    · have q2 : decide (2000 < (n : Int)) = false := by simp; omega
      rw [if_neg (by omega)] at HE
      have R := H2.out.rows
      have s0 := range_cell HS2.out (show (stL s)[0]? = some (.int .i64 s.pos) from rfl)
      have s1 := range_cell HS2.out (show (stL s)[1]? = some (.int .i64 s.charge) from rfl)
      have s2 := range_cell HS2.out (show (stL s)[2]? = some (.bool s.bolted) from rfl)
      go_upto_region 5 with fail
      clear s0 s1 s2
      have s0 := range_cell HS2.out (show (stL s)[0]? = some (.int .i64 s.pos) from rfl)
      have s1 := range_cell HS2.out (show (stL s)[1]? = some (.int .i64 s.charge) from rfl)
      have s2 := range_cell HS2.out (show (stL s)[2]? = some (.bool s.bolted) from rfl)
      go_wp2_with (refine wpList_load_mid rfl 25 _ rfl _ 0 rfl (gtL g p) _ (R) Tryz.underlying25 rfl (by kernel_rfl) ?_)
      refine (HSt.out _).mono ?_
      rintro e w3 ⟨rfl, hb⟩
      have H3 := hid (H2.out.later hb)
      have HS3 := hid (range_later HS2.out hb H2.out.lt)
      clear R s0 s1 s2 H2 HS2 hb
      generalize stE g s = se at *
      by_cases hy : se = 0
      · have HSg := hid (HSd.out hy)
        rw [if_neg (by simp [hy])] at HE
        subst hy
        clear HSd q q2
        go_wp2_with fail
        go_loopw [10, 11, 12] (fun ev ov iv wr => ∃ k : Nat, k ≤ n ∧ iv = .int .i64 k ∧ Hid (RuW w g p wr) ∧ ∃ e' : Int, ev = .int .i64 e' ∧ Hid ((e' = 0 ∧ wr.rangeAt (w.heap.size + 1) 0 (stL (lastF g s (ts.take k))) ∧ wr.ownsRow w3.heap.size 27 3 ov k ((scanF g s (ts.take k)).flatMap stL) ∧ eachP f 0 n = eachP f k (n - k) ∧ w3.heap.size ≤ wr.heap.size) ∨ (e' ≠ 0 ∧ runE g s ts = e'))) (fun _ _ iv _ => n - (intOf iv).toNat)
        case atStart => exact ⟨0, Nat.zero_le _, rfl, H3, 0, rfl, hid (.inl ⟨rfl, HS3.out, by simpa [scanF] using World.ownsRow_nil _ _ _ _, rfl, Nat.le_refl _⟩)⟩
        case round =>
          obtain ⟨k, hk, rfl, HX, e', rfl, HK⟩ := hrel
          have vk : IntKind.i64.wrap ((k : Int) + 1) = ((k + 1 : Nat) : Int) := by rw [IntWalk.i64_in _ (by omega)]; omega
          by_cases he : e' = 0
          · obtain ⟨-, hrs, hown, hea, hX⟩ := HK.out.resolve_right (fun h => h.1 he)
            subst he
            have HRs := hid hrs
            have hown := hid hown
            have HEa := hid hea
            clear hrs hea HK
            by_cases hlt : k < n
            · have hkl : k < ts.length := by rw [HLn.out]; exact hlt
              obtain ⟨b, o, hta, hb, hat⟩ := HTs.out.row (by omega)
              have hbr : b < wr.heap.size := by have := HX.out.below.size; omega
              have Rt := range_later (hat k hkl) HX.out.below hb
              have HSc := hid (scan_take (g := g) (s := s) hkl)
              have HLs := hid (last_take (g := g) (s := s) hkl)
              have HSgk := hid (last_good HG.out (ts.take k) HSg.out)
              have HFk := hid (show f k = ordE ts[k] by rw [← HF.out]; simp [List.getD, hkl])
              have HEy := hid (fun h => eachP_yes (f := f) hlt h)
              have HEn := hid (fun h => eachP_no (f := f) hlt h)
              rw [show ts.getD k default = ts[k] by simp [List.getD, hkl]] at HSc HLs
              generalize ts[k] = t at *
              generalize lastF g s (ts.take k) = st at *
              have t0 : wr.cell? ⟨b, o + k * 4, none⟩ = some (.int .i64 t.order) := by simpa using Rt 0 _ (show (spL t)[0]? = some (.int .i64 t.order) from rfl)
              have t1 : wr.cell? ⟨b, o + k * 4 + 1, none⟩ = some (.bool t.power) := Rt 1 _ rfl
              have t2 : wr.cell? ⟨b, o + k * 4 + 2, none⟩ = some (.int .i64 t.outer) := Rt 2 _ rfl
              have t3 : wr.cell? ⟨b, o + k * 4 + 3, none⟩ = some (.int .i64 t.inner) := Rt 3 _ rfl
              have hkI : (k : Int) < (n : Int) := by omega
              have hk0 : (0 : Int) ≤ (k : Int) := Int.natCast_nonneg _
              have s0 := range_cell HRs.out (show (stL st)[0]? = some (.int .i64 st.pos) from rfl)
              have s1 := range_cell HRs.out (show (stL st)[1]? = some (.int .i64 st.charge) from rfl)
              have s2 := range_cell HRs.out (show (stL st)[2]? = some (.bool st.bolted) from rfl)
              have HVa := hid (fun W => rvalid_any g p st t W)
              rw [show spE g st t = ordE t from ord_of_sp (stE_good HSgk.out)] at HVa
              have HTg := hid (fun h => spGood (t := t) h)
              have hlw := HX.out.lt
              subst hta
              clear Rt hat hkl
              generalize ordE t = oe at *
              go_wp2_with fail
              refine wp_region_noPanic ?_
              refine wp_region_held_drew (S := (fun w' => RuW w g p w' ∧ Below wr.heap.size wr w' ∧ w'.cell? ⟨w.heap.size + 1, 0, none⟩ = some (.int .i64 st.pos) ∧ w'.cell? ⟨w.heap.size + 1, 1, none⟩ = some (.int .i64 st.charge) ∧ w'.cell? ⟨w.heap.size + 1, 2, none⟩ = some (.bool st.bolted) ∧ w'.cell? ⟨b, o + k * 4, none⟩ = some (.int .i64 t.order) ∧ w'.cell? ⟨b, o + k * 4 + 1, none⟩ = some (.bool t.power) ∧ w'.cell? ⟨b, o + k * 4 + 2, none⟩ = some (.int .i64 t.outer) ∧ w'.cell? ⟨b, o + k * 4 + 3, none⟩ = some (.int .i64 t.inner))) (by kernel_rfl) ?_ (fun hHeld => ?_)
              · exact ⟨HX.out.drew, (Below.refl _ _).drew, by simpa using s0, by simpa using s1, by simpa using s2, by simpa using t0, by simpa using t1, by simpa using t2, by simpa using t3⟩
              refine wpAnyH_take (i := 0) (oi := { dst := _, op := _, type := _, pos := _, after := _, guard := _ }) (v := .agg (gtL g p).toArray) rfl (by kernel_rfl) (by kernel_rfl) (by kernel_rfl) (fun _ _ _ h => h) (yieldsIf_load_mid (by rfl) 25 _ rfl w.heap.size 0 rfl (gtL g p) _ (fun _ hS => hS.1.rows) Tryz.underlying25 rfl (by kernel_rfl)) (by assumption) ?_
              try simp only [Act.put, List.setIfInBounds_toArray, List.set_cons_zero, List.set_cons_succ]
              refine wpAnyH_take (i := 1) (oi := { dst := _, op := _, type := _, pos := _, after := _, guard := _ }) (v := ?_) rfl (by kernel_rfl) (by kernel_rfl) (by kernel_rfl) (fun _ _ _ h => h) (Or.inl ⟨by rfl, ?_⟩) (by assumption) ?_
              rotate_left
              · intro wS hSw; (try dsimp only at hSw); go_simp; try (with_reducible rfl)
              try simp only [Act.put, List.setIfInBounds_toArray, List.set_cons_zero, List.set_cons_succ]
              refine wpAnyH_take (i := 2) (oi := { dst := _, op := _, type := _, pos := _, after := _, guard := _ }) (v := ?_) rfl (by kernel_rfl) (by kernel_rfl) (by kernel_rfl) (fun _ _ _ h => h) (Or.inl ⟨by rfl, ?_⟩) (by assumption) ?_
              rotate_left
              · intro wS hSw; (try dsimp only at hSw); go_simp; try (with_reducible rfl)
              try simp only [Act.put, List.setIfInBounds_toArray, List.set_cons_zero, List.set_cons_succ]
              refine wpAnyH_take (i := 3) (oi := { dst := _, op := _, type := _, pos := _, after := _, guard := _ }) (v := ?_) rfl (by kernel_rfl) (by kernel_rfl) (by kernel_rfl) (fun _ _ _ h => h) (Or.inl ⟨by rfl, ?_⟩) (by assumption) ?_
              rotate_left
              · intro wS hSw; (try dsimp only at hSw); go_simp; try (with_reducible rfl)
              try simp only [Act.put, List.setIfInBounds_toArray, List.set_cons_zero, List.set_cons_succ]
              refine wpAnyH_take (i := 4) (oi := { dst := _, op := _, type := _, pos := _, after := _, guard := _ }) (v := ?_) rfl (by kernel_rfl) (by kernel_rfl) (by kernel_rfl) (fun _ _ _ h => h) (Or.inl ⟨by rfl, ?_⟩) (by assumption) ?_
              rotate_left
              · intro wS hSw; (try dsimp only at hSw); go_simp; try (with_reducible rfl)
              try simp only [Act.put, List.setIfInBounds_toArray, List.set_cons_zero, List.set_cons_succ]
              refine wpAnyH_take (i := 5) (oi := { dst := _, op := _, type := _, pos := _, after := _, guard := _ }) (v := ?_) rfl (by kernel_rfl) (by kernel_rfl) (by kernel_rfl) (fun _ _ _ h => h) (Or.inl ⟨by rfl, ?_⟩) (by assumption) ?_
              rotate_left
              · intro wS hSw; (try dsimp only at hSw); go_simp; try (with_reducible rfl)
              try simp only [Act.put, List.setIfInBounds_toArray, List.set_cons_zero, List.set_cons_succ]
              refine wpAnyH_ready (rs := [6]) (by kernel_rfl) (by simp) ?_
              refine AllReadyH.cons (o := { dst := _, op := _, type := _, pos := _, after := _, guard := _ }) rfl (fun K hK => ?_) AllReadyH.nil
              go_simp
              (go_at_call 30; (with_reducible refine (HVa.out _).mono ?_); rintro e w' ⟨rfl, hbe⟩)
              try go_wp2_with fail
              refine hK.out _ _ ?_ (fun hHeld => ?_)
              · (try dsimp only); have hHl := hHeld; exact keepR1 hbr hbe hHl
              clear hK K
              try simp only [Act.put, List.setIfInBounds_toArray, List.set_cons_zero, List.set_cons_succ]
              refine wpAnyH_take (i := 7) (oi := { dst := _, op := _, type := _, pos := _, after := _, guard := _ }) (v := ?_) rfl (by kernel_rfl) (by kernel_rfl) (by kernel_rfl) (fun _ _ _ h => h) (Or.inl ⟨by rfl, ?_⟩) (by assumption) ?_
              rotate_left
              · intro wS hSw; (try dsimp only at hSw); go_simp; try (with_reducible rfl)
              try simp only [Act.put, List.setIfInBounds_toArray, List.set_cons_zero, List.set_cons_succ]
              refine wpAnyH_done (by kernel_rfl) ?_ _
              refine NoPanic.normal ?_
              skip
              have hSv := (by assumption : RuW w g p _ ∧ _ ∧ _ ∧ _ ∧ _ ∧ _ ∧ _ ∧ _ ∧ _)
              have HVX := hid hSv.1
              have HVB := hid hSv.2.1
              obtain ⟨-, -, c0, c1, c2, d0, d1, d2, d3⟩ := hSv
              clear hHeld s0 s1 s2 t0 t1 t2 t3
              by_cases ho : oe = 0
              · have q6 : (oe == 0) = true := by simp [ho]
                have HOe := hid ho
                have HO6 := hid (HEa.out.trans (HEn.out (by rw [HFk.out]; exact ho)))
                have HBo := hid (fun W => rbolted_any st t W)
                have HSp := hid (fun W (hW : Below w.heap.size w W) => rstepped_any g p st t (refF st t 0) W HG.out HSgk.out (HTg.out ho) (HOk.out.own.later hW (Nat.le_refl _)))
                rw [← step_stp] at HSp
                generalize stepF g st t 0 = u at *
                generalize refF st t 0 = rf at *
                have hOw := hid (ownsRow_below hown.out HVB.out)
                have hX3 : w3.heap.size ≤ wr.heap.size := hX
                have hW3 : w.heap.size + 1 < w3.heap.size := H3.out.lt
                clear ho
                go_upto_region 12 with fail
                obtain ⟨V, hV⟩ : ∃ X, X = w' := ⟨_, rfl⟩
                subst hV
                have s0 := c0; have s1 := c1; have s2 := c2
                have hbV : b < V.heap.size := by have := HVB.out.size; omega
                clear c0 c1 c2
                have hBl : Below V.heap.size V V.drew := (Below.refl _ _).drew
                refine wp_region_noPanic ?_
                refine wp_region_held_drew (S := (fun w' => RuW w g p w' ∧ w'.cell? ⟨b, o + k * 4, none⟩ = some (.int .i64 t.order) ∧ w'.cell? ⟨b, o + k * 4 + 1, none⟩ = some (.bool t.power) ∧ w'.cell? ⟨b, o + k * 4 + 2, none⟩ = some (.int .i64 t.outer) ∧ w'.cell? ⟨b, o + k * 4 + 3, none⟩ = some (.int .i64 t.inner))) (by kernel_rfl) ?_ (fun hHeld => ?_)
                · exact ⟨HVX.out.drew, by simpa using d0, by simpa using d1, by simpa using d2, by simpa using d3⟩
                refine wpAnyH_take (i := 0) (oi := { dst := _, op := _, type := _, pos := _, after := _, guard := _ }) (v := .agg (gtL g p).toArray) rfl (by kernel_rfl) (by kernel_rfl) (by kernel_rfl) (fun _ _ _ h => h) (yieldsIf_load_mid (by rfl) 25 _ rfl w.heap.size 0 rfl (gtL g p) _ (fun _ hS => hS.1.rows) Tryz.underlying25 rfl (by kernel_rfl)) (by assumption) ?_
                try simp only [Act.put, List.setIfInBounds_toArray, List.set_cons_zero, List.set_cons_succ]
                refine wpAnyH_take (i := 2) (oi := { dst := _, op := _, type := _, pos := _, after := _, guard := _ }) (v := ?_) rfl (by kernel_rfl) (by kernel_rfl) (by kernel_rfl) (fun _ _ _ h => h) (Or.inl ⟨by rfl, ?_⟩) (by assumption) ?_
                rotate_left
                · intro wS hSw; (try dsimp only at hSw); go_simp; try (with_reducible rfl)
                try simp only [Act.put, List.setIfInBounds_toArray, List.set_cons_zero, List.set_cons_succ]
                refine wpAnyH_take (i := 3) (oi := { dst := _, op := _, type := _, pos := _, after := _, guard := _ }) (v := ?_) rfl (by kernel_rfl) (by kernel_rfl) (by kernel_rfl) (fun _ _ _ h => h) (Or.inl ⟨by rfl, ?_⟩) (by assumption) ?_
                rotate_left
                · intro wS hSw; (try dsimp only at hSw); go_simp; try (with_reducible rfl)
                try simp only [Act.put, List.setIfInBounds_toArray, List.set_cons_zero, List.set_cons_succ]
                refine wpAnyH_take (i := 4) (oi := { dst := _, op := _, type := _, pos := _, after := _, guard := _ }) (v := ?_) rfl (by kernel_rfl) (by kernel_rfl) (by kernel_rfl) (fun _ _ _ h => h) (Or.inl ⟨by rfl, ?_⟩) (by assumption) ?_
                rotate_left
                · intro wS hSw; (try dsimp only at hSw); go_simp; try (with_reducible rfl)
                try simp only [Act.put, List.setIfInBounds_toArray, List.set_cons_zero, List.set_cons_succ]
                refine wpAnyH_take (i := 5) (oi := { dst := _, op := _, type := _, pos := _, after := _, guard := _ }) (v := ?_) rfl (by kernel_rfl) (by kernel_rfl) (by kernel_rfl) (fun _ _ _ h => h) (Or.inl ⟨by rfl, ?_⟩) (by assumption) ?_
                rotate_left
                · intro wS hSw; (try dsimp only at hSw); go_simp; try (with_reducible rfl)
                try simp only [Act.put, List.setIfInBounds_toArray, List.set_cons_zero, List.set_cons_succ]
                refine wpAnyH_take (i := 7) (oi := { dst := _, op := _, type := _, pos := _, after := _, guard := _ }) (v := ?_) rfl (by kernel_rfl) (by kernel_rfl) (by kernel_rfl) (fun _ _ _ h => h) (Or.inl ⟨by rfl, ?_⟩) (by assumption) ?_
                rotate_left
                · intro wS hSw; (try dsimp only at hSw); go_simp; try (with_reducible rfl)
                try simp only [Act.put, List.setIfInBounds_toArray, List.set_cons_zero, List.set_cons_succ]
                refine wpAnyH_take (i := 8) (oi := { dst := _, op := _, type := _, pos := _, after := _, guard := _ }) (v := ?_) rfl (by kernel_rfl) (by kernel_rfl) (by kernel_rfl) (fun _ _ _ h => h) (Or.inl ⟨by rfl, ?_⟩) (by assumption) ?_
                rotate_left
                · intro wS hSw; (try dsimp only at hSw); go_simp; try (with_reducible rfl)
                try simp only [Act.put, List.setIfInBounds_toArray, List.set_cons_zero, List.set_cons_succ]
                refine wpAnyH_take (i := 9) (oi := { dst := _, op := _, type := _, pos := _, after := _, guard := _ }) (v := ?_) rfl (by kernel_rfl) (by kernel_rfl) (by kernel_rfl) (fun _ _ _ h => h) (Or.inl ⟨by rfl, ?_⟩) (by assumption) ?_
                rotate_left
                · intro wS hSw; (try dsimp only at hSw); go_simp; try (with_reducible rfl)
                try simp only [Act.put, List.setIfInBounds_toArray, List.set_cons_zero, List.set_cons_succ]
                refine wpAnyH_take (i := 10) (oi := { dst := _, op := _, type := _, pos := _, after := _, guard := _ }) (v := ?_) rfl (by kernel_rfl) (by kernel_rfl) (by kernel_rfl) (fun _ _ _ h => h) (Or.inl ⟨by rfl, ?_⟩) (by assumption) ?_
                rotate_left
                · intro wS hSw; (try dsimp only at hSw); go_simp; try (with_reducible rfl)
                try simp only [Act.put, List.setIfInBounds_toArray, List.set_cons_zero, List.set_cons_succ]
                refine wpAnyH_ready (rs := [1, 6]) (by kernel_rfl) (by simp) ?_
                refine AllReadyH.cons (o := { dst := _, op := _, type := _, pos := _, after := _, guard := _ }) rfl (fun K hK => ?_) (AllReadyH.cons (o := { dst := _, op := _, type := _, pos := _, after := _, guard := _ }) rfl (fun K hK => ?_) AllReadyH.nil)
                · go_simp
                  refine hK.out _ _ ?_ (fun hHeld => ?_)
                  · (try dsimp only); have hHl := hHeld; exact hHl
                  clear hK K
                  try simp only [Act.put, List.setIfInBounds_toArray, List.set_cons_zero, List.set_cons_succ]
                  refine wpAnyH_ready (rs := [6]) (by kernel_rfl) (by simp) ?_
                  refine AllReadyH.cons (o := { dst := _, op := _, type := _, pos := _, after := _, guard := _ }) rfl (fun K hK => ?_) AllReadyH.nil
                  go_simp
                  refine hK.out _ _ ?_ (fun hHeld => ?_)
                  · (try dsimp only); have hHl := hHeld; exact hHl
                  clear hK K
                  try simp only [Act.put, List.setIfInBounds_toArray, List.set_cons_zero, List.set_cons_succ]
                  refine wpAnyH_ready (rs := [11]) (by kernel_rfl) (by simp) ?_
                  refine AllReadyH.cons (o := { dst := _, op := _, type := _, pos := _, after := _, guard := _ }) rfl (fun K hK => ?_) AllReadyH.nil
                  go_simp
                  (go_at_call 32; have hSc := (by assumption : RuW w g p _ ∧ _ ∧ _ ∧ _ ∧ _); (with_reducible refine (HBo.out _).mono ?_); rintro e w' ⟨rfl, hbe⟩; have hbx : b < _ := Nat.lt_of_lt_of_le hbV hBl.size; replace hBl := hBl.trans (hbe.mono hBl.size); (try replace s0 := (hbe.cell (p := ⟨w.heap.size + 1, 0, none⟩) (show w.heap.size + 1 < _ by have := hSc.1.lt; omega)).trans s0); (try replace s1 := (hbe.cell (p := ⟨w.heap.size + 1, 1, none⟩) (show w.heap.size + 1 < _ by have := hSc.1.lt; omega)).trans s1); (try replace s2 := (hbe.cell (p := ⟨w.heap.size + 1, 2, none⟩) (show w.heap.size + 1 < _ by have := hSc.1.lt; omega)).trans s2); clear hSc)
                  try go_wp2_with fail
                  refine hK.out _ _ ?_ (fun hHeld => ?_)
                  · (try dsimp only); have hHl := hHeld; exact keepR3 hbx hbe hHl
                  clear hK K
                  try simp only [Act.put, List.setIfInBounds_toArray, List.set_cons_zero, List.set_cons_succ]
                  refine wpAnyH_ready (rs := [12]) (by kernel_rfl) (by simp) ?_
                  refine AllReadyH.cons (o := { dst := _, op := _, type := _, pos := _, after := _, guard := _ }) rfl (fun K hK => ?_) AllReadyH.nil
                  go_simp
                  (go_at_call 31; have hSc := (by assumption : RuW w g p _ ∧ _ ∧ _ ∧ _ ∧ _); (with_reducible refine (HSp.out _ hSc.1.below).mono ?_); clear hSc; rintro e w' ⟨rfl, hbe⟩; have hbx : b < _ := Nat.lt_of_lt_of_le hbV hBl.size; replace hBl := hBl.trans (hbe.mono hBl.size))
                  try go_wp2_with fail
                  refine hK.out _ _ ?_ (fun hHeld => ?_)
                  · (try dsimp only); have hHl := hHeld; exact keepR3 hbx hbe hHl
                  clear hK K
                  try simp only [Act.put, List.setIfInBounds_toArray, List.set_cons_zero, List.set_cons_succ]
                  refine wpAnyH_take (i := 13) (oi := { dst := _, op := _, type := _, pos := _, after := _, guard := _ }) (v := ?_) rfl (by kernel_rfl) (by kernel_rfl) (by kernel_rfl) (fun _ _ _ h => h) (Or.inl ⟨by rfl, ?_⟩) (by assumption) ?_
                  rotate_left
                  · intro wS hSw; (try dsimp only at hSw); go_simp; try (with_reducible rfl)
                  try simp only [Act.put, List.setIfInBounds_toArray, List.set_cons_zero, List.set_cons_succ]
                  refine wpAnyH_take (i := 14) (oi := { dst := _, op := _, type := _, pos := _, after := _, guard := _ }) (v := ?_) rfl (by kernel_rfl) (by kernel_rfl) (by kernel_rfl) (fun _ _ _ h => h) (Or.inl ⟨by rfl, ?_⟩) (by assumption) ?_
                  rotate_left
                  · intro wS hSw; (try dsimp only at hSw); go_simp; try (with_reducible rfl)
                  try simp only [Act.put, List.setIfInBounds_toArray, List.set_cons_zero, List.set_cons_succ]
                  refine wpAnyH_take (i := 15) (oi := { dst := _, op := _, type := _, pos := _, after := _, guard := _ }) (v := ?_) rfl (by kernel_rfl) (by kernel_rfl) (by kernel_rfl) (fun _ _ _ h => h) (Or.inl ⟨by rfl, ?_⟩) (by assumption) ?_
                  rotate_left
                  · intro wS hSw; (try dsimp only at hSw); go_simp; try (with_reducible rfl)
                  try simp only [Act.put, List.setIfInBounds_toArray, List.set_cons_zero, List.set_cons_succ]
                  refine wpAnyH_ready (rs := [16]) (by kernel_rfl) (by simp) ?_
                  refine AllReadyH.cons (o := { dst := _, op := _, type := _, pos := _, after := _, guard := _ }) rfl (fun K hK => ?_) AllReadyH.nil
                  have hSc := (by assumption : RuW w g p _ ∧ _ ∧ _ ∧ _ ∧ _)
                  have fs := hSc.1.fs
                  obtain ⟨z0, e0⟩ := hSc.1.s0
                  obtain ⟨z1, e1⟩ := hSc.1.s1
                  obtain ⟨z2, e2⟩ := hSc.1.s2
                  have lw := hSc.1.lt
                  clear hHeld
                  go_simp
                  refine hK.out _ _ ?_ (fun hHeld => ?_)
                  · (try dsimp only); exact setR3 hb _ _ _ hSc
                  clear hK K
                  try simp only [Act.put, List.setIfInBounds_toArray, List.set_cons_zero, List.set_cons_succ]
                  refine wpAnyH_done (by kernel_rfl) ?_ _
                  refine NoPanic.normal ?_
                  have HFF := hid (hSc.1.set (.int .i64 u.1.pos) (.int .i64 u.1.charge) (.bool u.1.bolted))
                  have HO3 := ownsRow_below hOw.out hBl
                  have hne := ownsRow_lt HO3 (b := w.heap.size + 1) (.inl (by omega))
                  have HO4 := hid (ownsRow_set (ownsRow_set (ownsRow_set HO3 ⟨w.heap.size + 1, 0, none⟩ (.int .i64 u.1.pos) hne) ⟨w.heap.size + 1, 1, none⟩ (.int .i64 u.1.charge) hne) ⟨w.heap.size + 1, 2, none⟩ (.bool u.1.bolted) hne)
                  have HSZ := hid (size_set3 (w := w) (Nat.le_trans (Nat.le_trans hX3 HVB.out.size) hBl.size) (.int .i64 u.1.pos) (.int .i64 u.1.charge) (.bool u.1.bolted))
                  clear hHeld hSc fs e0 e1 e2 lw s0 s1 s2 hne HO3 hBl
                  generalize World.setCell (World.setCell (World.setCell _ _ _) _ _) _ _ = U at *
                  have HU1 := hid HFF.out.1
                  have HU2 := hid HFF.out.2
                  have lwU := HU1.out.lt
                  have s0 := range_cell HU2.out (show [_, _, _][0]? = some (Value.int .i64 u.1.pos) from rfl)
                  have s1 := range_cell HU2.out (show [_, _, _][1]? = some (Value.int .i64 u.1.charge) from rfl)
                  have s2 := range_cell HU2.out (show [_, _, _][2]? = some (Value.bool u.1.bolted) from rfl)
                  clear HFF
                  have hszU := HSZ.out
                  go_wp2_with (at_builtin; refine wpList_append_own _ rfl _ _ 36 rfl w3.heap.size 27 i0 (.agg #[.int .i64 0, .int .i64 0, .bool false]) 3 24 Tryz.underlying36 hi hz0 hz1 hz2 rfl (by decide) _ _ _ rfl (HO4.out.alloc _) ⟨U.heap.size, 0, none⟩ 1 1 [.int .i64 u.1.pos, .int .i64 u.1.charge, .bool u.1.bolted] rfl rfl (by intro j x hj; match j, hj with | 0, hj => simp at hj; subst hj; simp [Addr.add, go_sem] | 1, hj => simp at hj; subst hj; simp [Addr.add, go_sem] | 2, hj => simp at hj; subst hj; simp [Addr.add, go_sem]) (by intro x hx; simp at hx; rcases hx with rfl | rfl | rfl <;> rfl) (by unfold maxLen; omega) (by omega) (by simp; omega) ?_)
                  intro v' w4 hown' hgrow _
                  have bV := below_own (HO4.out.alloc _) (Nat.le_refl _) (by have := HSZ.out; simp; omega) hgrow
                  have hal : Below w3.heap.size U w4 := ((Below.refl _ _).alloc HSZ.out _).trans bV
                  have HU3 := hid (HU1.out.laterB hal hW3)
                  have HU4 := hid (show w4.rangeAt (w.heap.size + 1) 0 (stL (lastF g s (ts.take (k + 1)))) by rw [HLs.out]; exact range_later HU2.out hal hW3)
                  have hs5 : w3.heap.size ≤ w4.heap.size := Nat.le_trans HSZ.out hal.size
                  have HO := hid (show w4.ownsRow w3.heap.size 27 3 v' (k + 1) ((scanF g s (ts.take (k + 1))).flatMap stL) by rw [HSc.out, List.flatMap_append]; exact hown')
                  clear hown' hgrow bV hal s0 s1 s2 lwU HO4 hszU
                  go_wp2_with fail
                  exact ⟨⟨k + 1, by omega, by go_num, HU3, oe, rfl, hid (.inl ⟨HOe.out, HU4.out, HO.out, HO6.out, hs5⟩)⟩, by simp [intOf]; omega⟩
                · go_simp
                  refine hK.out _ _ ?_ (fun hHeld => ?_)
                  · (try dsimp only); have hHl := hHeld; exact hHl
                  clear hK K
                  try simp only [Act.put, List.setIfInBounds_toArray, List.set_cons_zero, List.set_cons_succ]
                  refine wpAnyH_ready (rs := [1, 11]) (by kernel_rfl) (by simp) ?_
                  refine AllReadyH.cons (o := { dst := _, op := _, type := _, pos := _, after := _, guard := _ }) rfl (fun K hK => ?_) (AllReadyH.cons (o := { dst := _, op := _, type := _, pos := _, after := _, guard := _ }) rfl (fun K hK => ?_) AllReadyH.nil)
                  · go_simp
                    refine hK.out _ _ ?_ (fun hHeld => ?_)
                    · (try dsimp only); have hHl := hHeld; exact hHl
                    clear hK K
                    try simp only [Act.put, List.setIfInBounds_toArray, List.set_cons_zero, List.set_cons_succ]
                    refine wpAnyH_ready (rs := [11]) (by kernel_rfl) (by simp) ?_
                    refine AllReadyH.cons (o := { dst := _, op := _, type := _, pos := _, after := _, guard := _ }) rfl (fun K hK => ?_) AllReadyH.nil
                    go_simp
                    (go_at_call 32; have hSc := (by assumption : RuW w g p _ ∧ _ ∧ _ ∧ _ ∧ _); (with_reducible refine (HBo.out _).mono ?_); rintro e w' ⟨rfl, hbe⟩; have hbx : b < _ := Nat.lt_of_lt_of_le hbV hBl.size; replace hBl := hBl.trans (hbe.mono hBl.size); (try replace s0 := (hbe.cell (p := ⟨w.heap.size + 1, 0, none⟩) (show w.heap.size + 1 < _ by have := hSc.1.lt; omega)).trans s0); (try replace s1 := (hbe.cell (p := ⟨w.heap.size + 1, 1, none⟩) (show w.heap.size + 1 < _ by have := hSc.1.lt; omega)).trans s1); (try replace s2 := (hbe.cell (p := ⟨w.heap.size + 1, 2, none⟩) (show w.heap.size + 1 < _ by have := hSc.1.lt; omega)).trans s2); clear hSc)
                    try go_wp2_with fail
                    refine hK.out _ _ ?_ (fun hHeld => ?_)
                    · (try dsimp only); have hHl := hHeld; exact keepR3 hbx hbe hHl
                    clear hK K
                    try simp only [Act.put, List.setIfInBounds_toArray, List.set_cons_zero, List.set_cons_succ]
                    refine wpAnyH_ready (rs := [12]) (by kernel_rfl) (by simp) ?_
                    refine AllReadyH.cons (o := { dst := _, op := _, type := _, pos := _, after := _, guard := _ }) rfl (fun K hK => ?_) AllReadyH.nil
                    go_simp
                    (go_at_call 31; have hSc := (by assumption : RuW w g p _ ∧ _ ∧ _ ∧ _ ∧ _); (with_reducible refine (HSp.out _ hSc.1.below).mono ?_); clear hSc; rintro e w' ⟨rfl, hbe⟩; have hbx : b < _ := Nat.lt_of_lt_of_le hbV hBl.size; replace hBl := hBl.trans (hbe.mono hBl.size))
                    try go_wp2_with fail
                    refine hK.out _ _ ?_ (fun hHeld => ?_)
                    · (try dsimp only); have hHl := hHeld; exact keepR3 hbx hbe hHl
                    clear hK K
                    try simp only [Act.put, List.setIfInBounds_toArray, List.set_cons_zero, List.set_cons_succ]
                    refine wpAnyH_take (i := 13) (oi := { dst := _, op := _, type := _, pos := _, after := _, guard := _ }) (v := ?_) rfl (by kernel_rfl) (by kernel_rfl) (by kernel_rfl) (fun _ _ _ h => h) (Or.inl ⟨by rfl, ?_⟩) (by assumption) ?_
                    rotate_left
                    · intro wS hSw; (try dsimp only at hSw); go_simp; try (with_reducible rfl)
                    try simp only [Act.put, List.setIfInBounds_toArray, List.set_cons_zero, List.set_cons_succ]
                    refine wpAnyH_take (i := 14) (oi := { dst := _, op := _, type := _, pos := _, after := _, guard := _ }) (v := ?_) rfl (by kernel_rfl) (by kernel_rfl) (by kernel_rfl) (fun _ _ _ h => h) (Or.inl ⟨by rfl, ?_⟩) (by assumption) ?_
                    rotate_left
                    · intro wS hSw; (try dsimp only at hSw); go_simp; try (with_reducible rfl)
                    try simp only [Act.put, List.setIfInBounds_toArray, List.set_cons_zero, List.set_cons_succ]
                    refine wpAnyH_take (i := 15) (oi := { dst := _, op := _, type := _, pos := _, after := _, guard := _ }) (v := ?_) rfl (by kernel_rfl) (by kernel_rfl) (by kernel_rfl) (fun _ _ _ h => h) (Or.inl ⟨by rfl, ?_⟩) (by assumption) ?_
                    rotate_left
                    · intro wS hSw; (try dsimp only at hSw); go_simp; try (with_reducible rfl)
                    try simp only [Act.put, List.setIfInBounds_toArray, List.set_cons_zero, List.set_cons_succ]
                    refine wpAnyH_ready (rs := [16]) (by kernel_rfl) (by simp) ?_
                    refine AllReadyH.cons (o := { dst := _, op := _, type := _, pos := _, after := _, guard := _ }) rfl (fun K hK => ?_) AllReadyH.nil
                    have hSc := (by assumption : RuW w g p _ ∧ _ ∧ _ ∧ _ ∧ _)
                    have fs := hSc.1.fs
                    obtain ⟨z0, e0⟩ := hSc.1.s0
                    obtain ⟨z1, e1⟩ := hSc.1.s1
                    obtain ⟨z2, e2⟩ := hSc.1.s2
                    have lw := hSc.1.lt
                    clear hHeld
                    go_simp
                    refine hK.out _ _ ?_ (fun hHeld => ?_)
                    · (try dsimp only); exact setR3 hb _ _ _ hSc
                    clear hK K
                    try simp only [Act.put, List.setIfInBounds_toArray, List.set_cons_zero, List.set_cons_succ]
                    refine wpAnyH_done (by kernel_rfl) ?_ _
                    refine NoPanic.normal ?_
                    have HFF := hid (hSc.1.set (.int .i64 u.1.pos) (.int .i64 u.1.charge) (.bool u.1.bolted))
                    have HO3 := ownsRow_below hOw.out hBl
                    have hne := ownsRow_lt HO3 (b := w.heap.size + 1) (.inl (by omega))
                    have HO4 := hid (ownsRow_set (ownsRow_set (ownsRow_set HO3 ⟨w.heap.size + 1, 0, none⟩ (.int .i64 u.1.pos) hne) ⟨w.heap.size + 1, 1, none⟩ (.int .i64 u.1.charge) hne) ⟨w.heap.size + 1, 2, none⟩ (.bool u.1.bolted) hne)
                    have HSZ := hid (size_set3 (w := w) (Nat.le_trans (Nat.le_trans hX3 HVB.out.size) hBl.size) (.int .i64 u.1.pos) (.int .i64 u.1.charge) (.bool u.1.bolted))
                    clear hHeld hSc fs e0 e1 e2 lw s0 s1 s2 hne HO3 hBl
                    generalize World.setCell (World.setCell (World.setCell _ _ _) _ _) _ _ = U at *
                    have HU1 := hid HFF.out.1
                    have HU2 := hid HFF.out.2
                    have lwU := HU1.out.lt
                    have s0 := range_cell HU2.out (show [_, _, _][0]? = some (Value.int .i64 u.1.pos) from rfl)
                    have s1 := range_cell HU2.out (show [_, _, _][1]? = some (Value.int .i64 u.1.charge) from rfl)
                    have s2 := range_cell HU2.out (show [_, _, _][2]? = some (Value.bool u.1.bolted) from rfl)
                    clear HFF
                    have hszU := HSZ.out
                    go_wp2_with (at_builtin; refine wpList_append_own _ rfl _ _ 36 rfl w3.heap.size 27 i0 (.agg #[.int .i64 0, .int .i64 0, .bool false]) 3 24 Tryz.underlying36 hi hz0 hz1 hz2 rfl (by decide) _ _ _ rfl (HO4.out.alloc _) ⟨U.heap.size, 0, none⟩ 1 1 [.int .i64 u.1.pos, .int .i64 u.1.charge, .bool u.1.bolted] rfl rfl (by intro j x hj; match j, hj with | 0, hj => simp at hj; subst hj; simp [Addr.add, go_sem] | 1, hj => simp at hj; subst hj; simp [Addr.add, go_sem] | 2, hj => simp at hj; subst hj; simp [Addr.add, go_sem]) (by intro x hx; simp at hx; rcases hx with rfl | rfl | rfl <;> rfl) (by unfold maxLen; omega) (by omega) (by simp; omega) ?_)
                    intro v' w4 hown' hgrow _
                    have bV := below_own (HO4.out.alloc _) (Nat.le_refl _) (by have := HSZ.out; simp; omega) hgrow
                    have hal : Below w3.heap.size U w4 := ((Below.refl _ _).alloc HSZ.out _).trans bV
                    have HU3 := hid (HU1.out.laterB hal hW3)
                    have HU4 := hid (show w4.rangeAt (w.heap.size + 1) 0 (stL (lastF g s (ts.take (k + 1)))) by rw [HLs.out]; exact range_later HU2.out hal hW3)
                    have hs5 : w3.heap.size ≤ w4.heap.size := Nat.le_trans HSZ.out hal.size
                    have HO := hid (show w4.ownsRow w3.heap.size 27 3 v' (k + 1) ((scanF g s (ts.take (k + 1))).flatMap stL) by rw [HSc.out, List.flatMap_append]; exact hown')
                    clear hown' hgrow bV hal s0 s1 s2 lwU HO4 hszU
                    go_wp2_with fail
                    exact ⟨⟨k + 1, by omega, by go_num, HU3, oe, rfl, hid (.inl ⟨HOe.out, HU4.out, HO.out, HO6.out, hs5⟩)⟩, by simp [intOf]; omega⟩
                  · go_simp
                    (go_at_call 32; have hSc := (by assumption : RuW w g p _ ∧ _ ∧ _ ∧ _ ∧ _); (with_reducible refine (HBo.out _).mono ?_); rintro e w' ⟨rfl, hbe⟩; have hbx : b < _ := Nat.lt_of_lt_of_le hbV hBl.size; replace hBl := hBl.trans (hbe.mono hBl.size); (try replace s0 := (hbe.cell (p := ⟨w.heap.size + 1, 0, none⟩) (show w.heap.size + 1 < _ by have := hSc.1.lt; omega)).trans s0); (try replace s1 := (hbe.cell (p := ⟨w.heap.size + 1, 1, none⟩) (show w.heap.size + 1 < _ by have := hSc.1.lt; omega)).trans s1); (try replace s2 := (hbe.cell (p := ⟨w.heap.size + 1, 2, none⟩) (show w.heap.size + 1 < _ by have := hSc.1.lt; omega)).trans s2); clear hSc)
                    try go_wp2_with fail
                    refine hK.out _ _ ?_ (fun hHeld => ?_)
                    · (try dsimp only); have hHl := hHeld; exact keepR3 hbx hbe hHl
                    clear hK K
                    try simp only [Act.put, List.setIfInBounds_toArray, List.set_cons_zero, List.set_cons_succ]
                    refine wpAnyH_ready (rs := [1]) (by kernel_rfl) (by simp) ?_
                    refine AllReadyH.cons (o := { dst := _, op := _, type := _, pos := _, after := _, guard := _ }) rfl (fun K hK => ?_) AllReadyH.nil
                    go_simp
                    refine hK.out _ _ ?_ (fun hHeld => ?_)
                    · (try dsimp only); have hHl := hHeld; exact hHl
                    clear hK K
                    try simp only [Act.put, List.setIfInBounds_toArray, List.set_cons_zero, List.set_cons_succ]
                    refine wpAnyH_ready (rs := [12]) (by kernel_rfl) (by simp) ?_
                    refine AllReadyH.cons (o := { dst := _, op := _, type := _, pos := _, after := _, guard := _ }) rfl (fun K hK => ?_) AllReadyH.nil
                    go_simp
                    (go_at_call 31; have hSc := (by assumption : RuW w g p _ ∧ _ ∧ _ ∧ _ ∧ _); (with_reducible refine (HSp.out _ hSc.1.below).mono ?_); clear hSc; rintro e w' ⟨rfl, hbe⟩; have hbx : b < _ := Nat.lt_of_lt_of_le hbV hBl.size; replace hBl := hBl.trans (hbe.mono hBl.size))
                    try go_wp2_with fail
                    refine hK.out _ _ ?_ (fun hHeld => ?_)
                    · (try dsimp only); have hHl := hHeld; exact keepR3 hbx hbe hHl
                    clear hK K
                    try simp only [Act.put, List.setIfInBounds_toArray, List.set_cons_zero, List.set_cons_succ]
                    refine wpAnyH_take (i := 13) (oi := { dst := _, op := _, type := _, pos := _, after := _, guard := _ }) (v := ?_) rfl (by kernel_rfl) (by kernel_rfl) (by kernel_rfl) (fun _ _ _ h => h) (Or.inl ⟨by rfl, ?_⟩) (by assumption) ?_
                    rotate_left
                    · intro wS hSw; (try dsimp only at hSw); go_simp; try (with_reducible rfl)
                    try simp only [Act.put, List.setIfInBounds_toArray, List.set_cons_zero, List.set_cons_succ]
                    refine wpAnyH_take (i := 14) (oi := { dst := _, op := _, type := _, pos := _, after := _, guard := _ }) (v := ?_) rfl (by kernel_rfl) (by kernel_rfl) (by kernel_rfl) (fun _ _ _ h => h) (Or.inl ⟨by rfl, ?_⟩) (by assumption) ?_
                    rotate_left
                    · intro wS hSw; (try dsimp only at hSw); go_simp; try (with_reducible rfl)
                    try simp only [Act.put, List.setIfInBounds_toArray, List.set_cons_zero, List.set_cons_succ]
                    refine wpAnyH_take (i := 15) (oi := { dst := _, op := _, type := _, pos := _, after := _, guard := _ }) (v := ?_) rfl (by kernel_rfl) (by kernel_rfl) (by kernel_rfl) (fun _ _ _ h => h) (Or.inl ⟨by rfl, ?_⟩) (by assumption) ?_
                    rotate_left
                    · intro wS hSw; (try dsimp only at hSw); go_simp; try (with_reducible rfl)
                    try simp only [Act.put, List.setIfInBounds_toArray, List.set_cons_zero, List.set_cons_succ]
                    refine wpAnyH_ready (rs := [16]) (by kernel_rfl) (by simp) ?_
                    refine AllReadyH.cons (o := { dst := _, op := _, type := _, pos := _, after := _, guard := _ }) rfl (fun K hK => ?_) AllReadyH.nil
                    have hSc := (by assumption : RuW w g p _ ∧ _ ∧ _ ∧ _ ∧ _)
                    have fs := hSc.1.fs
                    obtain ⟨z0, e0⟩ := hSc.1.s0
                    obtain ⟨z1, e1⟩ := hSc.1.s1
                    obtain ⟨z2, e2⟩ := hSc.1.s2
                    have lw := hSc.1.lt
                    clear hHeld
                    go_simp
                    refine hK.out _ _ ?_ (fun hHeld => ?_)
                    · (try dsimp only); exact setR3 hb _ _ _ hSc
                    clear hK K
                    try simp only [Act.put, List.setIfInBounds_toArray, List.set_cons_zero, List.set_cons_succ]
                    refine wpAnyH_done (by kernel_rfl) ?_ _
                    refine NoPanic.normal ?_
                    have HFF := hid (hSc.1.set (.int .i64 u.1.pos) (.int .i64 u.1.charge) (.bool u.1.bolted))
                    have HO3 := ownsRow_below hOw.out hBl
                    have hne := ownsRow_lt HO3 (b := w.heap.size + 1) (.inl (by omega))
                    have HO4 := hid (ownsRow_set (ownsRow_set (ownsRow_set HO3 ⟨w.heap.size + 1, 0, none⟩ (.int .i64 u.1.pos) hne) ⟨w.heap.size + 1, 1, none⟩ (.int .i64 u.1.charge) hne) ⟨w.heap.size + 1, 2, none⟩ (.bool u.1.bolted) hne)
                    have HSZ := hid (size_set3 (w := w) (Nat.le_trans (Nat.le_trans hX3 HVB.out.size) hBl.size) (.int .i64 u.1.pos) (.int .i64 u.1.charge) (.bool u.1.bolted))
                    clear hHeld hSc fs e0 e1 e2 lw s0 s1 s2 hne HO3 hBl
                    generalize World.setCell (World.setCell (World.setCell _ _ _) _ _) _ _ = U at *
                    have HU1 := hid HFF.out.1
                    have HU2 := hid HFF.out.2
                    have lwU := HU1.out.lt
                    have s0 := range_cell HU2.out (show [_, _, _][0]? = some (Value.int .i64 u.1.pos) from rfl)
                    have s1 := range_cell HU2.out (show [_, _, _][1]? = some (Value.int .i64 u.1.charge) from rfl)
                    have s2 := range_cell HU2.out (show [_, _, _][2]? = some (Value.bool u.1.bolted) from rfl)
                    clear HFF
                    have hszU := HSZ.out
                    go_wp2_with (at_builtin; refine wpList_append_own _ rfl _ _ 36 rfl w3.heap.size 27 i0 (.agg #[.int .i64 0, .int .i64 0, .bool false]) 3 24 Tryz.underlying36 hi hz0 hz1 hz2 rfl (by decide) _ _ _ rfl (HO4.out.alloc _) ⟨U.heap.size, 0, none⟩ 1 1 [.int .i64 u.1.pos, .int .i64 u.1.charge, .bool u.1.bolted] rfl rfl (by intro j x hj; match j, hj with | 0, hj => simp at hj; subst hj; simp [Addr.add, go_sem] | 1, hj => simp at hj; subst hj; simp [Addr.add, go_sem] | 2, hj => simp at hj; subst hj; simp [Addr.add, go_sem]) (by intro x hx; simp at hx; rcases hx with rfl | rfl | rfl <;> rfl) (by unfold maxLen; omega) (by omega) (by simp; omega) ?_)
                    intro v' w4 hown' hgrow _
                    have bV := below_own (HO4.out.alloc _) (Nat.le_refl _) (by have := HSZ.out; simp; omega) hgrow
                    have hal : Below w3.heap.size U w4 := ((Below.refl _ _).alloc HSZ.out _).trans bV
                    have HU3 := hid (HU1.out.laterB hal hW3)
                    have HU4 := hid (show w4.rangeAt (w.heap.size + 1) 0 (stL (lastF g s (ts.take (k + 1)))) by rw [HLs.out]; exact range_later HU2.out hal hW3)
                    have hs5 : w3.heap.size ≤ w4.heap.size := Nat.le_trans HSZ.out hal.size
                    have HO := hid (show w4.ownsRow w3.heap.size 27 3 v' (k + 1) ((scanF g s (ts.take (k + 1))).flatMap stL) by rw [HSc.out, List.flatMap_append]; exact hown')
                    clear hown' hgrow bV hal s0 s1 s2 lwU HO4 hszU
                    go_wp2_with fail
                    exact ⟨⟨k + 1, by omega, by go_num, HU3, oe, rfl, hid (.inl ⟨HOe.out, HU4.out, HO.out, HO6.out, hs5⟩)⟩, by simp [intOf]; omega⟩
              · have q6 : (oe == 0) = false := by simp [ho]
                have HRE := hid (show runE g s ts = oe by rw [HE.out, HEa.out, HEy.out (by rw [HFk.out]; exact ho), HFk.out])
                have HNz := hid ho
                clear ho
                go_wp2_with fail
                exact ⟨⟨k + 1, by omega, by go_num, HVX, oe, rfl, hid (.inr ⟨HNz.out, HRE.out⟩)⟩, by simp [intOf]; omega⟩
            · obtain rfl : k = n := by omega
              have hjj : ¬ ((k : Int) < (k : Int)) := by omega
              have e : ts.take k = ts := List.take_of_length_le (by rw [HLn.out]; exact Nat.le_refl _)
              have hl : (scanF g s ts).length = k := by rw [scan_len, HLn.out]
              have hz : runE g s ts = 0 := by rw [HE.out, HEa.out, Nat.sub_self]; rfl
              rw [e] at hown
              obtain ⟨a, c, hv, hrows⟩ := rows_of_own (L := stL) (size := 3) (fun _ => rfl) (l := scanF g s ts) (by rw [hl]; exact hown.out)
              rw [hl] at hv
              subst hv
              have HRw := hid hrows
              have HLe := hid hl
              have HZ := hid hz
              have BF := HX.out.below
              clear hrows hl e hown hz
              go_wp2_with fail
              refine bodyPost_ret (v := .tuple #[.slice a k c, .int .i64 0]) (by simp [results, Tryz.results11, go_sem]) rfl ⟨a, ⟨c, ?_⟩, ?_, BF⟩
              · rw [HL.out, if_pos HZ.out, HLe.out, HZ.out]
              · rw [HL.out, if_pos HZ.out]; exact HRw.out
          · have HRE := hid (HK.out.resolve_left (fun h => he h.1)).2
            have HNz := hid he
            have q6 : (e' == 0) = false := by simp [he]
            have q7 : (e' != 0) = true := by simp [he]
            have BF := HX.out.below
            clear he HK
            by_cases hlt : k < n
            · have hkI : (k : Int) < (n : Int) := by omega
              go_wp2_with fail
              first | exact bodyPost_ret (v := .tuple #[.slice none 0 0, .int .i64 e']) (by simp [results, Tryz.results11, go_sem]) rfl ⟨none, ⟨0, by rw [HL.out, HRE.out, if_neg HNz.out]; rfl⟩, .inl (by rw [HL.out, HRE.out, if_neg HNz.out]), BF⟩ | exact bodyPost_ret (v := .tuple #[.slice none 0 0, .int .i64 e']) (by simp [results, Tryz.results11, go_sem]) rfl ⟨none, 0, by rw [HL.out, HRE.out, if_neg HNz.out]; rfl, .inl (by rw [HL.out, HRE.out, if_neg HNz.out]), BF⟩
            · have hkI : ¬ (k : Int) < (n : Int) := by omega
              go_wp2_with fail
              first | exact bodyPost_ret (v := .tuple #[.slice none 0 0, .int .i64 e']) (by simp [results, Tryz.results11, go_sem]) rfl ⟨none, ⟨0, by rw [HL.out, HRE.out, if_neg HNz.out]; rfl⟩, .inl (by rw [HL.out, HRE.out, if_neg HNz.out]), BF⟩ | exact bodyPost_ret (v := .tuple #[.slice none 0 0, .int .i64 e']) (by simp [results, Tryz.results11, go_sem]) rfl ⟨none, 0, by rw [HL.out, HRE.out, if_neg HNz.out]; rfl, .inl (by rw [HL.out, HRE.out, if_neg HNz.out]), BF⟩
      · have HRE := hid (HE.out.trans (if_pos hy))
        have q3 : (se == 0) = false := by simp [hy]
        have q4 : (se != 0) = true := by simp [hy]
        have HNz := hid hy
        clear hy
        go_wp2_with fail
        go_loopw [10, 12] (fun ev iv wr => ev = .int .i64 se ∧ iv = .int .i64 ((0 : Nat) : Int) ∧ Hid (RuW w g p wr)) (fun _ _ _ => 0)
        case atStart => exact ⟨rfl, rfl, H3⟩
        case round =>
          obtain ⟨rfl, rfl, HX⟩ := hrel
          have BF := HX.out.below
          by_cases hn0 : 0 < n
          · have hnI : (0 : Int) < (n : Int) := by omega
            have hnI2 : ((0 : Nat) : Int) < (n : Int) := by omega
            go_wp2_with fail
            first | exact bodyPost_ret (v := .tuple #[.slice none 0 0, .int .i64 se]) (by simp [results, Tryz.results11, go_sem]) rfl ⟨none, ⟨0, by rw [HL.out, HRE.out, if_neg HNz.out]; rfl⟩, .inl (by rw [HL.out, HRE.out, if_neg HNz.out]), BF⟩ | exact bodyPost_ret (v := .tuple #[.slice none 0 0, .int .i64 se]) (by simp [results, Tryz.results11, go_sem]) rfl ⟨none, 0, by rw [HL.out, HRE.out, if_neg HNz.out]; rfl, .inl (by rw [HL.out, HRE.out, if_neg HNz.out]), BF⟩
          · have hnI : ¬ (0 : Int) < (n : Int) := by omega
            have hnI2 : ¬ ((0 : Nat) : Int) < (n : Int) := by omega
            go_wp2_with fail
            first | exact bodyPost_ret (v := .tuple #[.slice none 0 0, .int .i64 se]) (by simp [results, Tryz.results11, go_sem]) rfl ⟨none, ⟨0, by rw [HL.out, HRE.out, if_neg HNz.out]; rfl⟩, .inl (by rw [HL.out, HRE.out, if_neg HNz.out]), BF⟩ | exact bodyPost_ret (v := .tuple #[.slice none 0 0, .int .i64 se]) (by simp [results, Tryz.results11, go_sem]) rfl ⟨none, 0, by rw [HL.out, HRE.out, if_neg HNz.out]; rfl, .inl (by rw [HL.out, HRE.out, if_neg HNz.out]), BF⟩
    · have q2 : decide (2000 < (n : Int)) = true := by simp; omega
      have HRE := hid (HE.out.trans (if_pos (by omega)))
      have HNz := hid (show (3 : Int) ≠ 0 by decide)
      clear h2k
      go_wp2_with fail
      go_loopw [10, 12] (fun ev iv wr => ev = .int .i64 3 ∧ iv = .int .i64 ((0 : Nat) : Int) ∧ Hid (RuW w g p wr)) (fun _ _ _ => 0)
      case atStart => exact ⟨rfl, rfl, H2⟩
      case round =>
        obtain ⟨rfl, rfl, HX⟩ := hrel
        have BF := HX.out.below
        by_cases hn0 : 0 < n
        · have hnI : (0 : Int) < (n : Int) := by omega
          have hnI2 : ((0 : Nat) : Int) < (n : Int) := by omega
          go_wp2_with fail
          first | exact bodyPost_ret (v := .tuple #[.slice none 0 0, .int .i64 3]) (by simp [results, Tryz.results11, go_sem]) rfl ⟨none, ⟨0, by rw [HL.out, HRE.out, if_neg HNz.out]; rfl⟩, .inl (by rw [HL.out, HRE.out, if_neg HNz.out]), BF⟩ | exact bodyPost_ret (v := .tuple #[.slice none 0 0, .int .i64 3]) (by simp [results, Tryz.results11, go_sem]) rfl ⟨none, 0, by rw [HL.out, HRE.out, if_neg HNz.out]; rfl, .inl (by rw [HL.out, HRE.out, if_neg HNz.out]), BF⟩
        · have hnI : ¬ (0 : Int) < (n : Int) := by omega
          have hnI2 : ¬ ((0 : Nat) : Int) < (n : Int) := by omega
          go_wp2_with fail
          first | exact bodyPost_ret (v := .tuple #[.slice none 0 0, .int .i64 3]) (by simp [results, Tryz.results11, go_sem]) rfl ⟨none, ⟨0, by rw [HL.out, HRE.out, if_neg HNz.out]; rfl⟩, .inl (by rw [HL.out, HRE.out, if_neg HNz.out]), BF⟩ | exact bodyPost_ret (v := .tuple #[.slice none 0 0, .int .i64 3]) (by simp [results, Tryz.results11, go_sem]) rfl ⟨none, 0, by rw [HL.out, HRE.out, if_neg HNz.out]; rfl, .inl (by rw [HL.out, HRE.out, if_neg HNz.out]), BF⟩
  · have q : (ge == 0) = false := by simp [hx]
    have qb : (ge != 0) = true := by simp [hx]
    have HRE := hid (HE.out.trans (if_pos hx))
    have HNz := hid hx
    clear hx
    go_wp2_with fail
    go_loopw [10, 12] (fun ev iv wr => ev = .int .i64 ge ∧ iv = .int .i64 ((0 : Nat) : Int) ∧ Hid (RuW w g p wr)) (fun _ _ _ => 0)
    case atStart => exact ⟨rfl, rfl, H2⟩
    case round =>
      obtain ⟨rfl, rfl, HX⟩ := hrel
      have BF := HX.out.below
      by_cases hn0 : 0 < n
      · have hnI : (0 : Int) < (n : Int) := by omega
        have hnI2 : ((0 : Nat) : Int) < (n : Int) := by omega
        go_wp2_with fail
        first | exact bodyPost_ret (v := .tuple #[.slice none 0 0, .int .i64 ge]) (by simp [results, Tryz.results11, go_sem]) rfl ⟨none, ⟨0, by rw [HL.out, HRE.out, if_neg HNz.out]; rfl⟩, .inl (by rw [HL.out, HRE.out, if_neg HNz.out]), BF⟩ | exact bodyPost_ret (v := .tuple #[.slice none 0 0, .int .i64 ge]) (by simp [results, Tryz.results11, go_sem]) rfl ⟨none, 0, by rw [HL.out, HRE.out, if_neg HNz.out]; rfl, .inl (by rw [HL.out, HRE.out, if_neg HNz.out]), BF⟩
      · have hnI : ¬ (0 : Int) < (n : Int) := by omega
        have hnI2 : ¬ ((0 : Nat) : Int) < (n : Int) := by omega
        go_wp2_with fail
        first | exact bodyPost_ret (v := .tuple #[.slice none 0 0, .int .i64 ge]) (by simp [results, Tryz.results11, go_sem]) rfl ⟨none, ⟨0, by rw [HL.out, HRE.out, if_neg HNz.out]; rfl⟩, .inl (by rw [HL.out, HRE.out, if_neg HNz.out]), BF⟩ | exact bodyPost_ret (v := .tuple #[.slice none 0 0, .int .i64 ge]) (by simp [results, Tryz.results11, go_sem]) rfl ⟨none, 0, by rw [HL.out, HRE.out, if_neg HNz.out]; rfl, .inl (by rw [HL.out, HRE.out, if_neg HNz.out]), BF⟩
end Go.Proofs.YtdoklolinbmhpaaGreat

set_option linter.all false
namespace Go.Proofs.YtdoklolinbmhpaaGreat
open Go.RowKit

/-- A fresh box that is not written yet, at or above an address. -/
def NewV (N : Nat) (cs : List Value) (v : Value) (w : World) : Prop := ∃ A, v = .pointer (some ⟨A, 0, none⟩) ∧ N ≤ A ∧ A < w.heap.size ∧ w.rangeAt A 0 cs ∧ ∀ o, w.frozen? ⟨A, o, none⟩ = false
theorem NewV.later {N : Nat} {cs : List Value} {v : Value} {w w' : World} (h : NewV N cs v w) (hb : Below w.heap.size w w') : NewV N cs v w' := by
  obtain ⟨A, h1, h2, h3, h4, h5⟩ := h
  exact ⟨A, h1, h2, Nat.lt_of_lt_of_le h3 hb.size, range_later h4 hb h3, fun o => (hb.frozen (p := ⟨A, o, none⟩) h3).trans (h5 o)⟩
theorem NewV.fresh (N : Nat) (cs : List Value) (T : TypeId) (w : World) (h : N ≤ w.heap.size) : NewV N cs (.pointer (some ⟨w.heap.size, 0, none⟩)) (w.alloc (.cells cs.toArray T)) :=
  ⟨_, rfl, h, by simp, range_alloc w cs T, fun o => by simp [go_sem]⟩
/-- The values of the part of the region in which stepped is called. -/
def stpV (N : Nat) (rf : Int) (u : St × Int × Int × Int) : Nat → Value → World → Prop
  | 5 => fun v _ => v = .int .i64 rf
  | 6 => fun v _ => v = .tuple #[.agg #[.int .i64 u.1.pos, .int .i64 u.1.charge, .bool u.1.bolted], .agg #[.int .i64 u.2.1, .int .i64 u.2.2.1, .int .i64 u.2.2.2]]
  | 7 => fun v _ => v = .tuple #[.agg #[.int .i64 u.1.pos, .int .i64 u.1.charge, .bool u.1.bolted], .agg #[.int .i64 u.2.1, .int .i64 u.2.2.1, .int .i64 u.2.2.2]]
  | 8 => fun v _ => v = .agg #[.int .i64 u.1.pos, .int .i64 u.1.charge, .bool u.1.bolted]
  | 9 => fun v _ => v = .agg #[.int .i64 u.2.1, .int .i64 u.2.2.1, .int .i64 u.2.2.2]
  | 10 => NewV N [.int .i64 0, .int .i64 0, .bool false]
  | 11 => NewV N [.int .i64 0, .int .i64 0, .int .i64 0]
  | _ => fun _ _ => True
theorem stpV_stable (N : Nat) (rf : Int) (u : St × Int × Int × Int) : ∀ i v w w', stpV N rf u i v w → Below w.heap.size w w' → stpV N rf u i v w' := by
  intro i v w w' h hb
  unfold stpV at *
  split at h
  all_goals first | exact NewV.later h hb | exact h
theorem keepSd {w x y : World} {g : Gt} {p : GtP} {s : St} {t : Sp} (hb : Below x.heap.size x y) (h : SdW w g p s t x ∧ x.cell? ⟨w.heap.size + 1, 0, none⟩ = some (.int .i64 s.pos) ∧ x.cell? ⟨w.heap.size + 1, 1, none⟩ = some (.int .i64 s.charge) ∧ x.cell? ⟨w.heap.size + 1, 2, none⟩ = some (.bool s.bolted) ∧ x.cell? ⟨w.heap.size + 1 + 1, 0, none⟩ = some (.int .i64 t.order) ∧ x.cell? ⟨w.heap.size + 1 + 1, 1, none⟩ = some (.bool t.power) ∧ x.cell? ⟨w.heap.size + 1 + 1, 2, none⟩ = some (.int .i64 t.outer) ∧ x.cell? ⟨w.heap.size + 1 + 1, 3, none⟩ = some (.int .i64 t.inner)) : SdW w g p s t y ∧ y.cell? ⟨w.heap.size + 1, 0, none⟩ = some (.int .i64 s.pos) ∧ y.cell? ⟨w.heap.size + 1, 1, none⟩ = some (.int .i64 s.charge) ∧ y.cell? ⟨w.heap.size + 1, 2, none⟩ = some (.bool s.bolted) ∧ y.cell? ⟨w.heap.size + 1 + 1, 0, none⟩ = some (.int .i64 t.order) ∧ y.cell? ⟨w.heap.size + 1 + 1, 1, none⟩ = some (.bool t.power) ∧ y.cell? ⟨w.heap.size + 1 + 1, 2, none⟩ = some (.int .i64 t.outer) ∧ y.cell? ⟨w.heap.size + 1 + 1, 3, none⟩ = some (.int .i64 t.inner) := by
  have hl := h.1.lt
  have c : ∀ b o, b < x.heap.size → y.cell? ⟨b, o, none⟩ = x.cell? ⟨b, o, none⟩ := fun b o hlt => hb.cell (p := ⟨b, o, none⟩) hlt
  exact ⟨h.1.later hb, (c _ _ (by omega)).trans h.2.1, (c _ _ (by omega)).trans h.2.2.1, (c _ _ (by omega)).trans h.2.2.2.1, (c _ _ (by omega)).trans h.2.2.2.2.1, (c _ _ (by omega)).trans h.2.2.2.2.2.1, (c _ _ (by omega)).trans h.2.2.2.2.2.2.1, (c _ _ (by omega)).trans h.2.2.2.2.2.2.2⟩
theorem SdW.high {w x : World} {g : Gt} {p : GtP} {s : St} {t : Sp} {A j : Nat} (h : SdW w g p s t x) (hA : w.heap.size + 1 + 1 + 1 + 1 < A) (v : Value) : SdW w g p s t (x.setCell ⟨A, j, none⟩ v) := by
  have c : ∀ b o, b < A → (x.setCell ⟨A, j, none⟩ v).cell? ⟨b, o, none⟩ = x.cell? ⟨b, o, none⟩ := fun b o hb => cs_o (.inl (by omega))
  exact ⟨h.below.setCell (by show w.heap.size ≤ A; omega) _, by simpa using h.lt, fun j v hv => (c _ _ (by omega)).trans (h.rows j v hv), fun j v hv => (c _ _ (by omega)).trans (h.ss j v hv), fun j v hv => (c _ _ (by omega)).trans (h.ts j v hv), fun j v hv => (c _ _ (by omega)).trans (h.rs j v hv), fun j v hv => (c _ _ (by omega)).trans (h.ms j v hv), fun o => by simpa using h.fs o, fun o => by simpa using h.ft o, fun o => by simpa using h.fr o, fun o => by simpa using h.fm o⟩
theorem SdW.all {w x : World} {g : Gt} {p : GtP} {s : St} {t : Sp} (h : SdW w g p s t x) : SdW w g p s t x ∧ x.cell? ⟨w.heap.size + 1, 0, none⟩ = some (.int .i64 s.pos) ∧ x.cell? ⟨w.heap.size + 1, 1, none⟩ = some (.int .i64 s.charge) ∧ x.cell? ⟨w.heap.size + 1, 2, none⟩ = some (.bool s.bolted) ∧ x.cell? ⟨w.heap.size + 1 + 1, 0, none⟩ = some (.int .i64 t.order) ∧ x.cell? ⟨w.heap.size + 1 + 1, 1, none⟩ = some (.bool t.power) ∧ x.cell? ⟨w.heap.size + 1 + 1, 2, none⟩ = some (.int .i64 t.outer) ∧ x.cell? ⟨w.heap.size + 1 + 1, 3, none⟩ = some (.int .i64 t.inner) :=
  ⟨h, range_cell h.ss (show (stL s)[0]? = some (.int .i64 s.pos) from rfl), range_cell h.ss (show (stL s)[1]? = some (.int .i64 s.charge) from rfl), range_cell h.ss (show (stL s)[2]? = some (.bool s.bolted) from rfl),
    range_cell h.ts (show (spL t)[0]? = some (.int .i64 t.order) from rfl), range_cell h.ts (show (spL t)[1]? = some (.bool t.power) from rfl), range_cell h.ts (show (spL t)[2]? = some (.int .i64 t.outer) from rfl), range_cell h.ts (show (spL t)[3]? = some (.int .i64 t.inner) from rfl)⟩
theorem SdW.drew {w x : World} {g : Gt} {p : GtP} {s : St} {t : Sp} (h : SdW w g p s t x) : SdW w g p s t x.drew :=
  ⟨h.below.drew, by simpa using h.lt, fun j v hv => by simpa using h.rows j v hv, fun j v hv => by simpa using h.ss j v hv, fun j v hv => by simpa using h.ts j v hv, fun j v hv => by simpa using h.rs j v hv, fun j v hv => by simpa using h.ms j v hv, fun o => by simpa using h.fs o, fun o => by simpa using h.ft o, fun o => by simpa using h.fr o, fun o => by simpa using h.fm o⟩
theorem box_ne {x : World} {A B : Nat} (hA : x.rangeAt A 0 [.int .i64 0, .int .i64 0, .bool false]) (hB : x.rangeAt B 0 [.int .i64 0, .int .i64 0, .int .i64 0]) : A ≠ B := by
  intro e
  subst e
  have a2 := range_cell hA (show [_, _, _][2]? = some (Value.bool false) from rfl)
  have b2 := range_cell hB (show [_, _, _][2]? = some (Value.int .i64 0) from rfl)
  rw [a2] at b2
  cases b2
set_option maxRecDepth 100000 in
set_option maxHeartbeats 8000000 in
theorem rStep_any (g : Gt) (p : GtP) (s : St) (t : Sp) (w : World) (hok : GtOk w p g) :
    Calls Tryz.prog 9 #[.agg (gtL g p).toArray, .agg #[.int .i64 s.pos, .int .i64 s.charge, .bool s.bolted], .agg #[.int .i64 t.order, .bool t.power, .int .i64 t.outer, .int .i64 t.inner]] w fun e w' => e = .returned (.tuple #[.agg #[.int .i64 (stepP g s t).1.1.pos, .int .i64 (stepP g s t).1.1.charge, .bool (stepP g s t).1.1.bolted], .agg #[.int .i64 (stepP g s t).1.2.1, .int .i64 (stepP g s t).1.2.2.1, .int .i64 (stepP g s t).1.2.2.2], .int .i64 (stepP g s t).2]) ∧ Below w.heap.size w w' := by
  have HE := hid (show stepP g s t = if gtE g ≠ 0 then ((⟨0, 0, false⟩, 0, 0, 0), gtE g) else if spE g s t ≠ 0 then ((⟨0, 0, false⟩, 0, 0, 0), spE g s t) else (stepF g s t 0, 0) from rfl)
  have HGd := hid (fun h => gtGood (g := g) h)
  have HSd := hid (fun h => spGoods (g := g) (s := s) (t := t) h)
  have HOk := hid hok
  have HV := hid (fun W => rvalid_any g p s t W)
  clear hok
  have H0 := SdW.start w g p s t
  go_enter Tryz.func9, Tryz.ntmps9
  go_upto_region 1 with fail
  generalize World.alloc (World.alloc (World.alloc (World.alloc (World.alloc w _) _) _) _) _ = W1 at *
  have H1 := hid H0
  clear H0
  have R := H1.out.rows
  go_wp2_with (refine wpList_load_mid rfl 25 _ rfl _ 0 rfl (gtL g p) _ (R) Tryz.underlying25 rfl (by kernel_rfl) ?_)
  refine (rcheck_any g p _ (HOk.out.later H1.out.below (Nat.le_refl _))).mono ?_
  rintro e w2 ⟨rfl, hb⟩
  have H2 := hid (H1.out.later hb)
  clear R H1 hb
  obtain ⟨k1, k2, ge, hge⟩ : ∃ a b c, gtP g = (a, b, c) := ⟨_, _, _, rfl⟩
  have hgE : gtE g = ge := by unfold gtE; rw [hge]
  rw [hge]
  rw [hgE] at HE HGd
  clear hge hgE
  dsimp only
  by_cases hx : ge = 0
  · have q : (ge == 0) = true := by simp [hx]
    have HG := hid (HGd.out hx)
    rw [if_neg (by simp [hx])] at HE
    clear hx HGd
    obtain ⟨-, s0, s1, s2, t0, t1, t2, t3⟩ := H2.out.all
    have R := H2.out.rows
    go_wp2_with (refine wpList_load_mid rfl 25 _ rfl _ 0 rfl (gtL g p) _ (R) Tryz.underlying25 rfl (by kernel_rfl) ?_)
    refine (HV.out _).mono ?_
    rintro e w3 ⟨rfl, hb⟩
    have H3 := hid (H2.out.later hb)
    clear R s0 s1 s2 t0 t1 t2 t3 H2 hb
    generalize spE g s t = se at *
    by_cases hx : se = 0
    · have q2 : (se != 0) = false := by simp [hx]
      rw [if_neg (by simp [hx])] at HE
      obtain ⟨hsg, htg⟩ := HSd.out hx
      have HSg := hid hsg
      have HTg := hid htg
      clear hx HSd hsg htg
      have HBo := hid (fun W => rbolted_any s t W)
      have HSt := hid (fun W (hW : Below w.heap.size w W) => rstepped_any g p s t (refF s t 0) W HG.out HSg.out HTg.out (HOk.out.own.later hW (Nat.le_refl _)))
      rw [← step_stp] at HSt
      generalize stepF g s t 0 = u at *
      generalize refF s t 0 = rf at *
      obtain ⟨-, s0, s1, s2, t0, t1, t2, t3⟩ := H3.out.all
      go_upto_region 6 with fail
      clear s0 s1 s2 t0 t1 t2 t3
      refine wp_region_noPanic ?_
      refine wp_region_held_drew (S := (fun w' => SdW w g p s t w' ∧ w'.cell? ⟨w.heap.size + 1, 0, none⟩ = some (.int .i64 s.pos) ∧ w'.cell? ⟨w.heap.size + 1, 1, none⟩ = some (.int .i64 s.charge) ∧ w'.cell? ⟨w.heap.size + 1, 2, none⟩ = some (.bool s.bolted) ∧ w'.cell? ⟨w.heap.size + 1 + 1, 0, none⟩ = some (.int .i64 t.order) ∧ w'.cell? ⟨w.heap.size + 1 + 1, 1, none⟩ = some (.bool t.power) ∧ w'.cell? ⟨w.heap.size + 1 + 1, 2, none⟩ = some (.int .i64 t.outer) ∧ w'.cell? ⟨w.heap.size + 1 + 1, 3, none⟩ = some (.int .i64 t.inner))) (by kernel_rfl) ?_ (fun hHeld => ?_)
      · exact H3.out.drew.all
      refine wpAnyH_take (i := 0) (oi := { dst := _, op := _, type := _, pos := _, after := _, guard := _ }) (v := .agg (gtL g p).toArray) rfl (by kernel_rfl) (by kernel_rfl) (by kernel_rfl) (fun _ _ _ h => h) (yieldsIf_load_mid (by rfl) 25 _ rfl w.heap.size 0 rfl (gtL g p) _ (fun _ hS => hS.1.rows) Tryz.underlying25 rfl (by kernel_rfl)) (by assumption) ?_
      try simp only [Act.put, List.setIfInBounds_toArray, List.set_cons_zero, List.set_cons_succ]
      refine wpAnyH_take (i := 1) (oi := { dst := _, op := _, type := _, pos := _, after := _, guard := _ }) (v := ?_) rfl (by kernel_rfl) (by kernel_rfl) (by kernel_rfl) (fun _ _ _ h => h) (Or.inl ⟨by rfl, ?_⟩) (by assumption) ?_
      rotate_left
      · intro wS hSw; (try dsimp only at hSw); go_simp; try (with_reducible rfl)
      try simp only [Act.put, List.setIfInBounds_toArray, List.set_cons_zero, List.set_cons_succ]
      refine wpAnyH_take (i := 2) (oi := { dst := _, op := _, type := _, pos := _, after := _, guard := _ }) (v := ?_) rfl (by kernel_rfl) (by kernel_rfl) (by kernel_rfl) (fun _ _ _ h => h) (Or.inl ⟨by rfl, ?_⟩) (by assumption) ?_
      rotate_left
      · intro wS hSw; (try dsimp only at hSw); go_simp; try (with_reducible rfl)
      try simp only [Act.put, List.setIfInBounds_toArray, List.set_cons_zero, List.set_cons_succ]
      refine wpAnyH_take (i := 3) (oi := { dst := _, op := _, type := _, pos := _, after := _, guard := _ }) (v := ?_) rfl (by kernel_rfl) (by kernel_rfl) (by kernel_rfl) (fun _ _ _ h => h) (Or.inl ⟨by rfl, ?_⟩) (by assumption) ?_
      rotate_left
      · intro wS hSw; (try dsimp only at hSw); go_simp; try (with_reducible rfl)
      try simp only [Act.put, List.setIfInBounds_toArray, List.set_cons_zero, List.set_cons_succ]
      refine wpAnyH_take (i := 4) (oi := { dst := _, op := _, type := _, pos := _, after := _, guard := _ }) (v := ?_) rfl (by kernel_rfl) (by kernel_rfl) (by kernel_rfl) (fun _ _ _ h => h) (Or.inl ⟨by rfl, ?_⟩) (by assumption) ?_
      rotate_left
      · intro wS hSw; (try dsimp only at hSw); go_simp; try (with_reducible rfl)
      try simp only [Act.put, List.setIfInBounds_toArray, List.set_cons_zero, List.set_cons_succ]
      refine wpAnyH_partXAlts (stpV (w.heap.size + 1 + 1 + 1 + 1 + 1) rf u) [9] #[true, true, true, true, true, true, true, true, true, true, true, true, false, false] 43 7 2 rfl rfl (by decide +kernel) (by decide +kernel) (by kernel_rfl) (by kernel_rfl) (by decide +kernel) (by decide +kernel) (stpV_stable _ _ _) (by assumption) (by decide +kernel) (fun i o ho hd hd1 d a wv hS hI hall => ?_) [(#[true, true, true, true, true, true, true, true, true, true, true, true, false, false], [(5, 37), (6, 38), (7, 31), (8, 39), (9, 40), (10, 12), (11, 13)], 0), (#[true, true, true, true, true, true, true, true, true, false, true, true, false, false], [(5, 37), (6, 38), (7, 31), (8, 39), (10, 12), (11, 13)], 1)] (fun b => by rcases h9 : b 9 with _ | _ <;> simp [maskD, h9]) (by decide +kernel) (fun alt halt vs wv hS hV => ?_)
      · have hm := todo_mem (l := [5, 6, 7, 8, 9, 10, 11, 12, 13]) (by decide +kernel) ho hd
        simp only [List.mem_cons, List.not_mem_nil, or_false] at hm
        rcases hm with rfl | rfl | rfl | rfl | rfl | rfl | rfl | rfl | rfl
        · injection ho with ho
          subst ho
          have e35 := hI.old (t := 35) (by decide +kernel) rfl
          have e36 := hI.old (t := 36) (by decide +kernel) rfl
          refine wp_callF (F := 32) (args := #[.agg #[.int .i64 s.pos, .int .i64 s.charge, .bool s.bolted], .agg #[.int .i64 t.order, .bool t.power, .int .i64 t.outer, .int .i64 t.inner]]) (by simp [execOp, go_sem, e35, e36]) ?_
          refine (HBo.out _).mono ?_
          rintro e w' ⟨rfl, hb⟩
          exact ⟨_, rfl, _, rfl, rfl, keepSd hb hS, hb⟩
        · injection ho with ho
          subst ho
          have e32 := hI.old (t := 32) (by decide +kernel) rfl
          have e33 := hI.old (t := 33) (by decide +kernel) rfl
          have e34 := hI.old (t := 34) (by decide +kernel) rfl
          obtain ⟨v5, e5, V5⟩ := hI.new (i := 5) (t := 37) rfl (by decide +kernel) (hall ⟨5, .data⟩ (by simp) rfl) rfl
          obtain rfl : v5 = .int .i64 rf := V5
          refine wp_callF (F := 31) (args := #[.agg (gtL g p).toArray, .agg #[.int .i64 s.pos, .int .i64 s.charge, .bool s.bolted], .agg #[.int .i64 t.order, .bool t.power, .int .i64 t.outer, .int .i64 t.inner], .int .i64 rf]) (by simp [execOp, go_sem, e32, e33, e34, e5]) ?_
          refine (HSt.out _ hS.1.below).mono ?_
          rintro e w' ⟨rfl, hb⟩
          exact ⟨_, rfl, _, rfl, rfl, keepSd hb hS, hb⟩
        · injection ho with ho
          subst ho
          obtain ⟨v6, e6, V6⟩ := hI.new (i := 6) (t := 38) rfl (by decide +kernel) (hall ⟨6, .data⟩ (by simp) rfl) rfl
          obtain rfl : v6 = .tuple #[.agg #[.int .i64 u.1.pos, .int .i64 u.1.charge, .bool u.1.bolted], .agg #[.int .i64 u.2.1, .int .i64 u.2.2.1, .int .i64 u.2.2.2]] := V6
          refine wp_valF (v := .tuple #[.agg #[.int .i64 u.1.pos, .int .i64 u.1.charge, .bool u.1.bolted], .agg #[.int .i64 u.2.1, .int .i64 u.2.2.1, .int .i64 u.2.2.2]]) (w' := wv) (by simp [execOp, go_sem, e6]) ?_
          exact ⟨_, rfl, rfl, hS, Below.refl _ _⟩
        · injection ho with ho
          subst ho
          obtain ⟨v7, e7, V7⟩ := hI.new (i := 7) (t := 31) rfl (by decide +kernel) (hall ⟨7, .data⟩ (by simp) rfl) rfl
          obtain rfl : v7 = .tuple #[.agg #[.int .i64 u.1.pos, .int .i64 u.1.charge, .bool u.1.bolted], .agg #[.int .i64 u.2.1, .int .i64 u.2.2.1, .int .i64 u.2.2.2]] := V7
          refine wp_valF (v := .agg #[.int .i64 u.1.pos, .int .i64 u.1.charge, .bool u.1.bolted]) (w' := wv) (by simp [execOp, go_sem, e7]) ?_
          exact ⟨_, rfl, rfl, hS, Below.refl _ _⟩
        · injection ho with ho
          subst ho
          obtain ⟨v7, e7, V7⟩ := hI.new (i := 7) (t := 31) rfl (by decide +kernel) (hall ⟨7, .data⟩ (by simp) rfl) rfl
          obtain rfl : v7 = .tuple #[.agg #[.int .i64 u.1.pos, .int .i64 u.1.charge, .bool u.1.bolted], .agg #[.int .i64 u.2.1, .int .i64 u.2.2.1, .int .i64 u.2.2.2]] := V7
          refine wp_valF (v := .agg #[.int .i64 u.2.1, .int .i64 u.2.2.1, .int .i64 u.2.2.2]) (w' := wv) (by simp [execOp, go_sem, e7]) ?_
          exact ⟨_, rfl, rfl, hS, Below.refl _ _⟩
        · injection ho with ho
          subst ho
          refine wp_valF (v := .pointer (some ⟨wv.heap.size, 0, none⟩)) (w' := wv.alloc (.cells #[.int .i64 0, .int .i64 0, .bool false] 27)) (by simp [execOp, go_sem]) ?_
          have hb : Below wv.heap.size wv (wv.alloc (.cells #[.int .i64 0, .int .i64 0, .bool false] 27)) := (Below.refl _ _).alloc (Nat.le_refl _) _
          exact ⟨_, rfl, NewV.fresh _ _ _ _ (by have := hS.1.lt; omega), keepSd hb hS, hb⟩
        · injection ho with ho
          subst ho
          refine wp_valF (v := .pointer (some ⟨wv.heap.size, 0, none⟩)) (w' := wv.alloc (.cells #[.int .i64 0, .int .i64 0, .int .i64 0] 31)) (by simp [execOp, go_sem]) ?_
          have hb : Below wv.heap.size wv (wv.alloc (.cells #[.int .i64 0, .int .i64 0, .int .i64 0] 31)) := (Below.refl _ _).alloc (Nat.le_refl _) _
          exact ⟨_, rfl, NewV.fresh _ _ _ _ (by have := hS.1.lt; omega), keepSd hb hS, hb⟩
        · exact absurd hd1 (by decide)
        · exact absurd hd1 (by decide)
      simp only [List.mem_cons, List.not_mem_nil, or_false] at halt
      rcases halt with rfl | rfl
      · dsimp only at hV ⊢
        have V5 : vs 37 = .int .i64 rf := hV (5, 37) (by simp)
        have V6 : vs 38 = .tuple #[.agg #[.int .i64 u.1.pos, .int .i64 u.1.charge, .bool u.1.bolted], .agg #[.int .i64 u.2.1, .int .i64 u.2.2.1, .int .i64 u.2.2.2]] := hV (6, 38) (by simp)
        have V7 : vs 31 = .tuple #[.agg #[.int .i64 u.1.pos, .int .i64 u.1.charge, .bool u.1.bolted], .agg #[.int .i64 u.2.1, .int .i64 u.2.2.1, .int .i64 u.2.2.2]] := hV (7, 31) (by simp)
        have V8 : vs 39 = .agg #[.int .i64 u.1.pos, .int .i64 u.1.charge, .bool u.1.bolted] := hV (8, 39) (by simp)
        have V9 : vs 40 = .agg #[.int .i64 u.2.1, .int .i64 u.2.2.1, .int .i64 u.2.2.2] := hV (9, 40) (by simp)
        obtain ⟨A, eA, hA1, hA2, hA3, hA4⟩ : NewV (w.heap.size + 1 + 1 + 1 + 1 + 1) [.int .i64 0, .int .i64 0, .bool false] (vs 12) wv := hV (10, 12) (by simp)
        obtain ⟨B, eB, hB1, hB2, hB3, hB4⟩ : NewV (w.heap.size + 1 + 1 + 1 + 1 + 1) [.int .i64 0, .int .i64 0, .int .i64 0] (vs 13) wv := hV (11, 13) (by simp)
        have hAB := box_ne hA3 hB3
        simp only [putL, V5, V6, V7, V8, V9, eA, eB]
        try simp only [Act.put, List.setIfInBounds_toArray, List.set_cons_zero, List.set_cons_succ]
        clear hV V5 V6 V7 V8 V9 eA eB HBo HSt hHeld
        have a0 := range_cell hA3 (show [_, _, _][0]? = some (Value.int .i64 0) from rfl)
        have a1 := range_cell hA3 (show [_, _, _][1]? = some (Value.int .i64 0) from rfl)
        have a2 := range_cell hA3 (show [_, _, _][2]? = some (Value.bool false) from rfl)
        have b0 := range_cell hB3 (show [_, _, _][0]? = some (Value.int .i64 0) from rfl)
        have b1 := range_cell hB3 (show [_, _, _][1]? = some (Value.int .i64 0) from rfl)
        have b2 := range_cell hB3 (show [_, _, _][2]? = some (Value.int .i64 0) from rfl)
        have HFin := hid (fin10 (U := wv) (A := A) (B := B) hAB ⟨_, a0⟩ ⟨_, a1⟩ ⟨_, a2⟩ ⟨_, b0⟩ ⟨_, b1⟩ ⟨_, b2⟩ (.int .i64 u.1.pos) (.int .i64 u.1.charge) (.bool u.1.bolted) (.int .i64 u.2.1) (.int .i64 u.2.2.1) (.int .i64 u.2.2.2))
        have HA3 := hid (((hS.1.high (A := A) (j := 0) (by omega) (.int .i64 u.1.pos)).high (A := A) (j := 1) (by omega) (.int .i64 u.1.charge)).high (A := A) (j := 2) (by omega) (.bool u.1.bolted))
        have HS6 := hid (((HA3.out.high (A := B) (j := 0) (by omega) (.int .i64 u.2.1)).high (A := B) (j := 1) (by omega) (.int .i64 u.2.2.1)).high (A := B) (j := 2) (by omega) (.int .i64 u.2.2.2))
        have hXA : w.heap.size + 1 + 1 + 1 + 1 < A := by omega
        have hXB : w.heap.size + 1 + 1 + 1 + 1 < B := by omega
        clear hA3 hB3 hS
        refine wpAnyH_ready (rs := [12]) (by kernel_rfl) (by simp) ?_
        refine AllReadyH.cons (o := { dst := _, op := _, type := _, pos := _, after := _, guard := _ }) rfl (fun K hK => ?_) AllReadyH.nil
        go_simp
        refine hK.out _ _ ?_ (fun hHeld => ?_)
        · (try dsimp only); exact HA3.out.all
        clear hK K
        try simp only [Act.put, List.setIfInBounds_toArray, List.set_cons_zero, List.set_cons_succ]
        have c0 : World.cell? _ ⟨B, 0, none⟩ = _ := (cs_o (x := (wv.setCell ⟨A, 0, none⟩ (.int .i64 u.1.pos)).setCell ⟨A, 1, none⟩ (.int .i64 u.1.charge)) (c := A) (j := 2) (v := .bool u.1.bolted) (.inl (Ne.symm hAB))).trans ((cs_o (.inl (Ne.symm hAB))).trans ((cs_o (.inl (Ne.symm hAB))).trans b0))
        have c1 : World.cell? _ ⟨B, 1, none⟩ = _ := (cs_o (x := (wv.setCell ⟨A, 0, none⟩ (.int .i64 u.1.pos)).setCell ⟨A, 1, none⟩ (.int .i64 u.1.charge)) (c := A) (j := 2) (v := .bool u.1.bolted) (.inl (Ne.symm hAB))).trans ((cs_o (.inl (Ne.symm hAB))).trans ((cs_o (.inl (Ne.symm hAB))).trans b1))
        have c2 : World.cell? _ ⟨B, 2, none⟩ = _ := (cs_o (x := (wv.setCell ⟨A, 0, none⟩ (.int .i64 u.1.pos)).setCell ⟨A, 1, none⟩ (.int .i64 u.1.charge)) (c := A) (j := 2) (v := .bool u.1.bolted) (.inl (Ne.symm hAB))).trans ((cs_o (.inl (Ne.symm hAB))).trans ((cs_o (.inl (Ne.symm hAB))).trans b2))
        refine wpAnyH_ready (rs := [13]) (by kernel_rfl) (by simp) ?_
        refine AllReadyH.cons (o := { dst := _, op := _, type := _, pos := _, after := _, guard := _ }) rfl (fun K hK => ?_) AllReadyH.nil
        go_simp
        refine hK.out _ _ ?_ (fun hHeld => ?_)
        · (try dsimp only); exact HS6.out.all
        clear hK K
        try simp only [Act.put, List.setIfInBounds_toArray, List.set_cons_zero, List.set_cons_succ]
        refine wpAnyH_done (by kernel_rfl) ?_ _
        refine NoPanic.normal ?_
        clear a0 a1 a2 b0 b1 b2 c0 c1 c2 HA3 hA1 hA2 hA4 hB1 hB2 hB4 hHeld
        generalize World.setCell (World.setCell (World.setCell (World.setCell (World.setCell (World.setCell wv _ _) _ _) _ _) _ _) _ _) _ _ = U at *
        obtain ⟨k0, k1', k2', l0, l1, l2⟩ := HFin.out
        have hU := HS6.out.below
        have r0 := range_cell HS6.out.rs (show [_, _, _][0]? = some (Value.int .i64 0) from rfl)
        have r1 := range_cell HS6.out.rs (show [_, _, _][1]? = some (Value.int .i64 0) from rfl)
        have r2 := range_cell HS6.out.rs (show [_, _, _][2]? = some (Value.bool false) from rfl)
        have m0 := range_cell HS6.out.ms (show [_, _, _][0]? = some (Value.int .i64 0) from rfl)
        have m1 := range_cell HS6.out.ms (show [_, _, _][1]? = some (Value.int .i64 0) from rfl)
        have m2 := range_cell HS6.out.ms (show [_, _, _][2]? = some (Value.int .i64 0) from rfl)
        have fr := HS6.out.fr
        have fm := HS6.out.fm
        clear HFin HS6
        go_upto_region 7 with fail
        refine wp_region_noPanic ?_
        refine wp_region_held_drew (S := (fun w' => Below w.heap.size w w' ∧ w'.cell? ⟨A, 0, none⟩ = some (.int .i64 u.1.pos) ∧ w'.cell? ⟨A, 1, none⟩ = some (.int .i64 u.1.charge) ∧ w'.cell? ⟨A, 2, none⟩ = some (.bool u.1.bolted) ∧ w'.cell? ⟨B, 0, none⟩ = some (.int .i64 u.2.1) ∧ w'.cell? ⟨B, 1, none⟩ = some (.int .i64 u.2.2.1) ∧ w'.cell? ⟨B, 2, none⟩ = some (.int .i64 u.2.2.2) ∧ (∃ z, w'.cell? ⟨w.heap.size + 1 + 1 + 1, 0, none⟩ = some z) ∧ (∃ z, w'.cell? ⟨w.heap.size + 1 + 1 + 1, 1, none⟩ = some z) ∧ (∃ z, w'.cell? ⟨w.heap.size + 1 + 1 + 1, 2, none⟩ = some z) ∧ (∃ z, w'.cell? ⟨w.heap.size + 1 + 1 + 1 + 1, 0, none⟩ = some z) ∧ (∃ z, w'.cell? ⟨w.heap.size + 1 + 1 + 1 + 1, 1, none⟩ = some z) ∧ (∃ z, w'.cell? ⟨w.heap.size + 1 + 1 + 1 + 1, 2, none⟩ = some z) ∧ (∀ o, w'.frozen? ⟨w.heap.size + 1 + 1 + 1, o, none⟩ = false) ∧ ∀ o, w'.frozen? ⟨w.heap.size + 1 + 1 + 1 + 1, o, none⟩ = false)) (by kernel_rfl) ?_ (fun hHeld => ?_)
        · exact ⟨hU.drew, by simpa using k0, by simpa using k1', by simpa using k2', by simpa using l0, by simpa using l1, by simpa using l2, ⟨_, by simpa using r0⟩, ⟨_, by simpa using r1⟩, ⟨_, by simpa using r2⟩, ⟨_, by simpa using m0⟩, ⟨_, by simpa using m1⟩, ⟨_, by simpa using m2⟩, by simpa using fr, by simpa using fm⟩
        refine wpAnyH_take (i := 0) (oi := { dst := _, op := _, type := _, pos := _, after := _, guard := _ }) (v := ?_) rfl (by kernel_rfl) (by kernel_rfl) (by kernel_rfl) (fun _ _ _ h => h) (Or.inl ⟨by rfl, ?_⟩) (by assumption) ?_
        rotate_left
        · intro wS hSw; (try dsimp only at hSw); go_simp; try (with_reducible rfl)
        try simp only [Act.put, List.setIfInBounds_toArray, List.set_cons_zero, List.set_cons_succ]
        refine wpAnyH_take (i := 1) (oi := { dst := _, op := _, type := _, pos := _, after := _, guard := _ }) (v := ?_) rfl (by kernel_rfl) (by kernel_rfl) (by kernel_rfl) (fun _ _ _ h => h) (Or.inl ⟨by rfl, ?_⟩) (by assumption) ?_
        rotate_left
        · intro wS hSw; (try dsimp only at hSw); go_simp; try (with_reducible rfl)
        try simp only [Act.put, List.setIfInBounds_toArray, List.set_cons_zero, List.set_cons_succ]
        clear k0 k1' k2' l0 l1 l2 r0 r1 r2 m0 m1 m2 fr fm hU
        generalize World.drew _ = U2 at *
        have hU2 := hid (by assumption : Below w.heap.size w _ ∧ _ ∧ _ ∧ _ ∧ _ ∧ _ ∧ _ ∧ _ ∧ _ ∧ _ ∧ _ ∧ _ ∧ _ ∧ _ ∧ _)
        obtain ⟨-, -, -, -, -, -, -, ⟨p0, q0⟩, ⟨p1, q1⟩, ⟨p2, q2⟩, ⟨p3, q3⟩, ⟨p4, q4⟩, ⟨p5, q5⟩, g1, g2⟩ := (by assumption : Below w.heap.size w _ ∧ _ ∧ _ ∧ _ ∧ _ ∧ _ ∧ _ ∧ _ ∧ _ ∧ _ ∧ _ ∧ _ ∧ _ ∧ _ ∧ _)
        refine wpAnyH_ready (rs := [2]) (by kernel_rfl) (by simp) ?_
        refine AllReadyH.cons (o := { dst := _, op := _, type := _, pos := _, after := _, guard := _ }) rfl (fun K hK => ?_) AllReadyH.nil
        go_simp
        refine hK.out _ _ ?_ (fun hHeld => ?_)
        · (try dsimp only); have hHl := hHeld; exact keepS8 (by omega) (by omega) (by omega) hHl
        clear hK K
        clear q0 q1 q2 q3 q4 q5 g1 g2
        try simp only [Act.put, List.setIfInBounds_toArray, List.set_cons_zero, List.set_cons_succ]
        obtain ⟨-, -, -, -, -, -, -, ⟨p0, q0⟩, ⟨p1, q1⟩, ⟨p2, q2⟩, ⟨p3, q3⟩, ⟨p4, q4⟩, ⟨p5, q5⟩, g1, g2⟩ := (by assumption : Below w.heap.size w _ ∧ _ ∧ _ ∧ _ ∧ _ ∧ _ ∧ _ ∧ _ ∧ _ ∧ _ ∧ _ ∧ _ ∧ _ ∧ _ ∧ _)
        refine wpAnyH_ready (rs := [3]) (by kernel_rfl) (by simp) ?_
        refine AllReadyH.cons (o := { dst := _, op := _, type := _, pos := _, after := _, guard := _ }) rfl (fun K hK => ?_) AllReadyH.nil
        go_simp
        refine hK.out _ _ ?_ (fun hHeld => ?_)
        · (try dsimp only); have hHl := hHeld; exact keepS8 (by omega) (by omega) (by omega) hHl
        clear hK K
        clear q0 q1 q2 q3 q4 q5 g1 g2
        try simp only [Act.put, List.setIfInBounds_toArray, List.set_cons_zero, List.set_cons_succ]
        refine wpAnyH_take (i := 4) (oi := { dst := _, op := _, type := _, pos := _, after := _, guard := _ }) (v := ?_) rfl (by kernel_rfl) (by kernel_rfl) (by kernel_rfl) (fun _ _ _ h => h) (Or.inl ⟨by rfl, ?_⟩) (by assumption) ?_
        rotate_left
        · intro wS hSw; (try dsimp only at hSw); go_simp; try (with_reducible rfl)
        try simp only [Act.put, List.setIfInBounds_toArray, List.set_cons_zero, List.set_cons_succ]
        refine wpAnyH_done (by kernel_rfl) ?_ _
        refine NoPanic.normal ?_

        have hF := (by assumption : Below w.heap.size w _ ∧ _ ∧ _ ∧ _ ∧ _ ∧ _ ∧ _ ∧ _ ∧ _ ∧ _ ∧ _ ∧ _ ∧ _ ∧ _ ∧ _).1
        have hE := hU2.out
        have hfin := fin10 (A := w.heap.size + 1 + 1 + 1) (B := w.heap.size + 1 + 1 + 1 + 1) (by omega) hE.2.2.2.2.2.2.2.1 hE.2.2.2.2.2.2.2.2.1 hE.2.2.2.2.2.2.2.2.2.1 hE.2.2.2.2.2.2.2.2.2.2.1 hE.2.2.2.2.2.2.2.2.2.2.2.1 hE.2.2.2.2.2.2.2.2.2.2.2.2.1 (.int .i64 u.1.pos) (.int .i64 u.1.charge) (.bool u.1.bolted) (.int .i64 u.2.1) (.int .i64 u.2.2.1) (.int .i64 u.2.2.2)
        clear hE hHeld
        try clear hHeld
        generalize World.setCell (World.setCell _ _ _) _ _ = F at *
        obtain ⟨f0, f1, f2, f3, f4, f5⟩ := hfin
        go_wp2_with fail
        refine bodyPost_ret (v := .tuple #[.agg #[.int .i64 u.1.pos, .int .i64 u.1.charge, .bool u.1.bolted], .agg #[.int .i64 u.2.1, .int .i64 u.2.2.1, .int .i64 u.2.2.2], .int .i64 0]) (by simp [results, Tryz.results9, go_sem, f0, f1, f2, f3, f4, f5]) rfl ⟨by rw [HE.out], hF⟩
      · dsimp only at hV ⊢
        have V5 : vs 37 = .int .i64 rf := hV (5, 37) (by simp)
        have V6 : vs 38 = .tuple #[.agg #[.int .i64 u.1.pos, .int .i64 u.1.charge, .bool u.1.bolted], .agg #[.int .i64 u.2.1, .int .i64 u.2.2.1, .int .i64 u.2.2.2]] := hV (6, 38) (by simp)
        have V7 : vs 31 = .tuple #[.agg #[.int .i64 u.1.pos, .int .i64 u.1.charge, .bool u.1.bolted], .agg #[.int .i64 u.2.1, .int .i64 u.2.2.1, .int .i64 u.2.2.2]] := hV (7, 31) (by simp)
        have V8 : vs 39 = .agg #[.int .i64 u.1.pos, .int .i64 u.1.charge, .bool u.1.bolted] := hV (8, 39) (by simp)
        obtain ⟨A, eA, hA1, hA2, hA3, hA4⟩ : NewV (w.heap.size + 1 + 1 + 1 + 1 + 1) [.int .i64 0, .int .i64 0, .bool false] (vs 12) wv := hV (10, 12) (by simp)
        obtain ⟨B, eB, hB1, hB2, hB3, hB4⟩ : NewV (w.heap.size + 1 + 1 + 1 + 1 + 1) [.int .i64 0, .int .i64 0, .int .i64 0] (vs 13) wv := hV (11, 13) (by simp)
        have hAB := box_ne hA3 hB3
        simp only [putL, V5, V6, V7, V8, eA, eB]
        try simp only [Act.put, List.setIfInBounds_toArray, List.set_cons_zero, List.set_cons_succ]
        have hSg := hS
        refine wpAnyH_take (i := 9) (oi := { dst := _, op := _, type := _, pos := _, after := _, guard := _ }) (v := ?_) rfl (by kernel_rfl) (by kernel_rfl) (by kernel_rfl) (fun _ _ _ h => h) (Or.inl ⟨by rfl, ?_⟩) (by assumption) ?_
        rotate_left
        · intro wS hSw; (try dsimp only at hSw); go_simp; try (with_reducible rfl)
        try simp only [Act.put, List.setIfInBounds_toArray, List.set_cons_zero, List.set_cons_succ]
        clear hSg
        clear hV V5 V6 V7 V8 eA eB HBo HSt hHeld
        have a0 := range_cell hA3 (show [_, _, _][0]? = some (Value.int .i64 0) from rfl)
        have a1 := range_cell hA3 (show [_, _, _][1]? = some (Value.int .i64 0) from rfl)
        have a2 := range_cell hA3 (show [_, _, _][2]? = some (Value.bool false) from rfl)
        have b0 := range_cell hB3 (show [_, _, _][0]? = some (Value.int .i64 0) from rfl)
        have b1 := range_cell hB3 (show [_, _, _][1]? = some (Value.int .i64 0) from rfl)
        have b2 := range_cell hB3 (show [_, _, _][2]? = some (Value.int .i64 0) from rfl)
        have HFin := hid (fin10 (U := wv) (A := A) (B := B) hAB ⟨_, a0⟩ ⟨_, a1⟩ ⟨_, a2⟩ ⟨_, b0⟩ ⟨_, b1⟩ ⟨_, b2⟩ (.int .i64 u.1.pos) (.int .i64 u.1.charge) (.bool u.1.bolted) (.int .i64 u.2.1) (.int .i64 u.2.2.1) (.int .i64 u.2.2.2))
        have HA3 := hid (((hS.1.high (A := A) (j := 0) (by omega) (.int .i64 u.1.pos)).high (A := A) (j := 1) (by omega) (.int .i64 u.1.charge)).high (A := A) (j := 2) (by omega) (.bool u.1.bolted))
        have HS6 := hid (((HA3.out.high (A := B) (j := 0) (by omega) (.int .i64 u.2.1)).high (A := B) (j := 1) (by omega) (.int .i64 u.2.2.1)).high (A := B) (j := 2) (by omega) (.int .i64 u.2.2.2))
        have hXA : w.heap.size + 1 + 1 + 1 + 1 < A := by omega
        have hXB : w.heap.size + 1 + 1 + 1 + 1 < B := by omega
        clear hA3 hB3 hS
        refine wpAnyH_ready (rs := [12]) (by kernel_rfl) (by simp) ?_
        refine AllReadyH.cons (o := { dst := _, op := _, type := _, pos := _, after := _, guard := _ }) rfl (fun K hK => ?_) AllReadyH.nil
        go_simp
        refine hK.out _ _ ?_ (fun hHeld => ?_)
        · (try dsimp only); exact HA3.out.all
        clear hK K
        try simp only [Act.put, List.setIfInBounds_toArray, List.set_cons_zero, List.set_cons_succ]
        have c0 : World.cell? _ ⟨B, 0, none⟩ = _ := (cs_o (x := (wv.setCell ⟨A, 0, none⟩ (.int .i64 u.1.pos)).setCell ⟨A, 1, none⟩ (.int .i64 u.1.charge)) (c := A) (j := 2) (v := .bool u.1.bolted) (.inl (Ne.symm hAB))).trans ((cs_o (.inl (Ne.symm hAB))).trans ((cs_o (.inl (Ne.symm hAB))).trans b0))
        have c1 : World.cell? _ ⟨B, 1, none⟩ = _ := (cs_o (x := (wv.setCell ⟨A, 0, none⟩ (.int .i64 u.1.pos)).setCell ⟨A, 1, none⟩ (.int .i64 u.1.charge)) (c := A) (j := 2) (v := .bool u.1.bolted) (.inl (Ne.symm hAB))).trans ((cs_o (.inl (Ne.symm hAB))).trans ((cs_o (.inl (Ne.symm hAB))).trans b1))
        have c2 : World.cell? _ ⟨B, 2, none⟩ = _ := (cs_o (x := (wv.setCell ⟨A, 0, none⟩ (.int .i64 u.1.pos)).setCell ⟨A, 1, none⟩ (.int .i64 u.1.charge)) (c := A) (j := 2) (v := .bool u.1.bolted) (.inl (Ne.symm hAB))).trans ((cs_o (.inl (Ne.symm hAB))).trans ((cs_o (.inl (Ne.symm hAB))).trans b2))
        refine wpAnyH_ready (rs := [13]) (by kernel_rfl) (by simp) ?_
        refine AllReadyH.cons (o := { dst := _, op := _, type := _, pos := _, after := _, guard := _ }) rfl (fun K hK => ?_) AllReadyH.nil
        go_simp
        refine hK.out _ _ ?_ (fun hHeld => ?_)
        · (try dsimp only); exact HS6.out.all
        clear hK K
        try simp only [Act.put, List.setIfInBounds_toArray, List.set_cons_zero, List.set_cons_succ]
        refine wpAnyH_done (by kernel_rfl) ?_ _
        refine NoPanic.normal ?_
        clear a0 a1 a2 b0 b1 b2 c0 c1 c2 HA3 hA1 hA2 hA4 hB1 hB2 hB4 hHeld
        generalize World.setCell (World.setCell (World.setCell (World.setCell (World.setCell (World.setCell wv _ _) _ _) _ _) _ _) _ _) _ _ = U at *
        obtain ⟨k0, k1', k2', l0, l1, l2⟩ := HFin.out
        have hU := HS6.out.below
        have r0 := range_cell HS6.out.rs (show [_, _, _][0]? = some (Value.int .i64 0) from rfl)
        have r1 := range_cell HS6.out.rs (show [_, _, _][1]? = some (Value.int .i64 0) from rfl)
        have r2 := range_cell HS6.out.rs (show [_, _, _][2]? = some (Value.bool false) from rfl)
        have m0 := range_cell HS6.out.ms (show [_, _, _][0]? = some (Value.int .i64 0) from rfl)
        have m1 := range_cell HS6.out.ms (show [_, _, _][1]? = some (Value.int .i64 0) from rfl)
        have m2 := range_cell HS6.out.ms (show [_, _, _][2]? = some (Value.int .i64 0) from rfl)
        have fr := HS6.out.fr
        have fm := HS6.out.fm
        clear HFin HS6
        go_upto_region 7 with fail
        refine wp_region_noPanic ?_
        refine wp_region_held_drew (S := (fun w' => Below w.heap.size w w' ∧ w'.cell? ⟨A, 0, none⟩ = some (.int .i64 u.1.pos) ∧ w'.cell? ⟨A, 1, none⟩ = some (.int .i64 u.1.charge) ∧ w'.cell? ⟨A, 2, none⟩ = some (.bool u.1.bolted) ∧ w'.cell? ⟨B, 0, none⟩ = some (.int .i64 u.2.1) ∧ w'.cell? ⟨B, 1, none⟩ = some (.int .i64 u.2.2.1) ∧ w'.cell? ⟨B, 2, none⟩ = some (.int .i64 u.2.2.2) ∧ (∃ z, w'.cell? ⟨w.heap.size + 1 + 1 + 1, 0, none⟩ = some z) ∧ (∃ z, w'.cell? ⟨w.heap.size + 1 + 1 + 1, 1, none⟩ = some z) ∧ (∃ z, w'.cell? ⟨w.heap.size + 1 + 1 + 1, 2, none⟩ = some z) ∧ (∃ z, w'.cell? ⟨w.heap.size + 1 + 1 + 1 + 1, 0, none⟩ = some z) ∧ (∃ z, w'.cell? ⟨w.heap.size + 1 + 1 + 1 + 1, 1, none⟩ = some z) ∧ (∃ z, w'.cell? ⟨w.heap.size + 1 + 1 + 1 + 1, 2, none⟩ = some z) ∧ (∀ o, w'.frozen? ⟨w.heap.size + 1 + 1 + 1, o, none⟩ = false) ∧ ∀ o, w'.frozen? ⟨w.heap.size + 1 + 1 + 1 + 1, o, none⟩ = false)) (by kernel_rfl) ?_ (fun hHeld => ?_)
        · exact ⟨hU.drew, by simpa using k0, by simpa using k1', by simpa using k2', by simpa using l0, by simpa using l1, by simpa using l2, ⟨_, by simpa using r0⟩, ⟨_, by simpa using r1⟩, ⟨_, by simpa using r2⟩, ⟨_, by simpa using m0⟩, ⟨_, by simpa using m1⟩, ⟨_, by simpa using m2⟩, by simpa using fr, by simpa using fm⟩
        refine wpAnyH_take (i := 0) (oi := { dst := _, op := _, type := _, pos := _, after := _, guard := _ }) (v := ?_) rfl (by kernel_rfl) (by kernel_rfl) (by kernel_rfl) (fun _ _ _ h => h) (Or.inl ⟨by rfl, ?_⟩) (by assumption) ?_
        rotate_left
        · intro wS hSw; (try dsimp only at hSw); go_simp; try (with_reducible rfl)
        try simp only [Act.put, List.setIfInBounds_toArray, List.set_cons_zero, List.set_cons_succ]
        refine wpAnyH_take (i := 1) (oi := { dst := _, op := _, type := _, pos := _, after := _, guard := _ }) (v := ?_) rfl (by kernel_rfl) (by kernel_rfl) (by kernel_rfl) (fun _ _ _ h => h) (Or.inl ⟨by rfl, ?_⟩) (by assumption) ?_
        rotate_left
        · intro wS hSw; (try dsimp only at hSw); go_simp; try (with_reducible rfl)
        try simp only [Act.put, List.setIfInBounds_toArray, List.set_cons_zero, List.set_cons_succ]
        clear k0 k1' k2' l0 l1 l2 r0 r1 r2 m0 m1 m2 fr fm hU
        generalize World.drew _ = U2 at *
        have hU2 := hid (by assumption : Below w.heap.size w _ ∧ _ ∧ _ ∧ _ ∧ _ ∧ _ ∧ _ ∧ _ ∧ _ ∧ _ ∧ _ ∧ _ ∧ _ ∧ _ ∧ _)
        obtain ⟨-, -, -, -, -, -, -, ⟨p0, q0⟩, ⟨p1, q1⟩, ⟨p2, q2⟩, ⟨p3, q3⟩, ⟨p4, q4⟩, ⟨p5, q5⟩, g1, g2⟩ := (by assumption : Below w.heap.size w _ ∧ _ ∧ _ ∧ _ ∧ _ ∧ _ ∧ _ ∧ _ ∧ _ ∧ _ ∧ _ ∧ _ ∧ _ ∧ _ ∧ _)
        refine wpAnyH_ready (rs := [2]) (by kernel_rfl) (by simp) ?_
        refine AllReadyH.cons (o := { dst := _, op := _, type := _, pos := _, after := _, guard := _ }) rfl (fun K hK => ?_) AllReadyH.nil
        go_simp
        refine hK.out _ _ ?_ (fun hHeld => ?_)
        · (try dsimp only); have hHl := hHeld; exact keepS8 (by omega) (by omega) (by omega) hHl
        clear hK K
        clear q0 q1 q2 q3 q4 q5 g1 g2
        try simp only [Act.put, List.setIfInBounds_toArray, List.set_cons_zero, List.set_cons_succ]
        obtain ⟨-, -, -, -, -, -, -, ⟨p0, q0⟩, ⟨p1, q1⟩, ⟨p2, q2⟩, ⟨p3, q3⟩, ⟨p4, q4⟩, ⟨p5, q5⟩, g1, g2⟩ := (by assumption : Below w.heap.size w _ ∧ _ ∧ _ ∧ _ ∧ _ ∧ _ ∧ _ ∧ _ ∧ _ ∧ _ ∧ _ ∧ _ ∧ _ ∧ _ ∧ _)
        refine wpAnyH_ready (rs := [3]) (by kernel_rfl) (by simp) ?_
        refine AllReadyH.cons (o := { dst := _, op := _, type := _, pos := _, after := _, guard := _ }) rfl (fun K hK => ?_) AllReadyH.nil
        go_simp
        refine hK.out _ _ ?_ (fun hHeld => ?_)
        · (try dsimp only); have hHl := hHeld; exact keepS8 (by omega) (by omega) (by omega) hHl
        clear hK K
        clear q0 q1 q2 q3 q4 q5 g1 g2
        try simp only [Act.put, List.setIfInBounds_toArray, List.set_cons_zero, List.set_cons_succ]
        refine wpAnyH_take (i := 4) (oi := { dst := _, op := _, type := _, pos := _, after := _, guard := _ }) (v := ?_) rfl (by kernel_rfl) (by kernel_rfl) (by kernel_rfl) (fun _ _ _ h => h) (Or.inl ⟨by rfl, ?_⟩) (by assumption) ?_
        rotate_left
        · intro wS hSw; (try dsimp only at hSw); go_simp; try (with_reducible rfl)
        try simp only [Act.put, List.setIfInBounds_toArray, List.set_cons_zero, List.set_cons_succ]
        refine wpAnyH_done (by kernel_rfl) ?_ _
        refine NoPanic.normal ?_

        have hF := (by assumption : Below w.heap.size w _ ∧ _ ∧ _ ∧ _ ∧ _ ∧ _ ∧ _ ∧ _ ∧ _ ∧ _ ∧ _ ∧ _ ∧ _ ∧ _ ∧ _).1
        have hE := hU2.out
        have hfin := fin10 (A := w.heap.size + 1 + 1 + 1) (B := w.heap.size + 1 + 1 + 1 + 1) (by omega) hE.2.2.2.2.2.2.2.1 hE.2.2.2.2.2.2.2.2.1 hE.2.2.2.2.2.2.2.2.2.1 hE.2.2.2.2.2.2.2.2.2.2.1 hE.2.2.2.2.2.2.2.2.2.2.2.1 hE.2.2.2.2.2.2.2.2.2.2.2.2.1 (.int .i64 u.1.pos) (.int .i64 u.1.charge) (.bool u.1.bolted) (.int .i64 u.2.1) (.int .i64 u.2.2.1) (.int .i64 u.2.2.2)
        clear hE hHeld
        try clear hHeld
        generalize World.setCell (World.setCell _ _ _) _ _ = F at *
        obtain ⟨f0, f1, f2, f3, f4, f5⟩ := hfin
        go_wp2_with fail
        refine bodyPost_ret (v := .tuple #[.agg #[.int .i64 u.1.pos, .int .i64 u.1.charge, .bool u.1.bolted], .agg #[.int .i64 u.2.1, .int .i64 u.2.2.1, .int .i64 u.2.2.2], .int .i64 0]) (by simp [results, Tryz.results9, go_sem, f0, f1, f2, f3, f4, f5]) rfl ⟨by rw [HE.out], hF⟩
    · have q2 : (se != 0) = true := by simp [hx]
      have HZ := hid (HE.out.trans (if_pos hx))
      clear hx
      have r0 := range_cell H3.out.rs (show [_, _, _][0]? = some (Value.int .i64 0) from rfl)
      have r1 := range_cell H3.out.rs (show [_, _, _][1]? = some (Value.int .i64 0) from rfl)
      have r2 := range_cell H3.out.rs (show [_, _, _][2]? = some (Value.bool false) from rfl)
      have m0 := range_cell H3.out.ms (show [_, _, _][0]? = some (Value.int .i64 0) from rfl)
      have m1 := range_cell H3.out.ms (show [_, _, _][1]? = some (Value.int .i64 0) from rfl)
      have m2 := range_cell H3.out.ms (show [_, _, _][2]? = some (Value.int .i64 0) from rfl)
      have fr := H3.out.fr
      have fm := H3.out.fm
      have lt0 := H3.out.lt
      have HFin := hid (fin10 (U := w3) (A := w.heap.size + 1 + 1 + 1) (B := w.heap.size + 1 + 1 + 1 + 1) (by omega) ⟨_, r0⟩ ⟨_, r1⟩ ⟨_, r2⟩ ⟨_, m0⟩ ⟨_, m1⟩ ⟨_, m2⟩ (.int .i64 0) (.int .i64 0) (.bool false) (.int .i64 0) (.int .i64 0) (.int .i64 0))
      have BN := hid ((((((H3.out.below.setCell (p := ⟨w.heap.size + 1 + 1 + 1, 0, none⟩) (by show w.heap.size ≤ w.heap.size + 1 + 1 + 1; omega) (.int .i64 0)).setCell (p := ⟨w.heap.size + 1 + 1 + 1, 1, none⟩) (by show w.heap.size ≤ w.heap.size + 1 + 1 + 1; omega) (.int .i64 0)).setCell (p := ⟨w.heap.size + 1 + 1 + 1, 2, none⟩) (by show w.heap.size ≤ w.heap.size + 1 + 1 + 1; omega) (.bool false)).setCell (p := ⟨w.heap.size + 1 + 1 + 1 + 1, 0, none⟩) (by show w.heap.size ≤ w.heap.size + 1 + 1 + 1 + 1; omega) (.int .i64 0)).setCell (p := ⟨w.heap.size + 1 + 1 + 1 + 1, 1, none⟩) (by show w.heap.size ≤ w.heap.size + 1 + 1 + 1 + 1; omega) (.int .i64 0)).setCell (p := ⟨w.heap.size + 1 + 1 + 1 + 1, 2, none⟩) (by show w.heap.size ≤ w.heap.size + 1 + 1 + 1 + 1; omega) (.int .i64 0))
      go_wp2_with fail
      generalize World.setCell (World.setCell (World.setCell (World.setCell (World.setCell (World.setCell w3 _ _) _ _) _ _) _ _) _ _) _ _ = F at *
      obtain ⟨f0, f1, f2, f3, f4, f5⟩ := HFin.out
      refine bodyPost_ret (v := .tuple #[.agg #[.int .i64 0, .int .i64 0, .bool false], .agg #[.int .i64 0, .int .i64 0, .int .i64 0], .int .i64 se]) (by simp [results, Tryz.results9, go_sem, f0, f1, f2, f3, f4, f5]) rfl ⟨by rw [HZ.out], BN.out⟩
  · have q : (ge == 0) = false := by simp [hx]
    have q2 : (ge != 0) = true := by simp [hx]
    have HZ := hid (HE.out.trans (if_pos hx))
    clear hx
    have r0 := range_cell H2.out.rs (show [_, _, _][0]? = some (Value.int .i64 0) from rfl)
    have r1 := range_cell H2.out.rs (show [_, _, _][1]? = some (Value.int .i64 0) from rfl)
    have r2 := range_cell H2.out.rs (show [_, _, _][2]? = some (Value.bool false) from rfl)
    have m0 := range_cell H2.out.ms (show [_, _, _][0]? = some (Value.int .i64 0) from rfl)
    have m1 := range_cell H2.out.ms (show [_, _, _][1]? = some (Value.int .i64 0) from rfl)
    have m2 := range_cell H2.out.ms (show [_, _, _][2]? = some (Value.int .i64 0) from rfl)
    have fr := H2.out.fr
    have fm := H2.out.fm
    have lt0 := H2.out.lt
    have HFin := hid (fin10 (U := w2) (A := w.heap.size + 1 + 1 + 1) (B := w.heap.size + 1 + 1 + 1 + 1) (by omega) ⟨_, r0⟩ ⟨_, r1⟩ ⟨_, r2⟩ ⟨_, m0⟩ ⟨_, m1⟩ ⟨_, m2⟩ (.int .i64 0) (.int .i64 0) (.bool false) (.int .i64 0) (.int .i64 0) (.int .i64 0))
    have BN := hid ((((((H2.out.below.setCell (p := ⟨w.heap.size + 1 + 1 + 1, 0, none⟩) (by show w.heap.size ≤ w.heap.size + 1 + 1 + 1; omega) (.int .i64 0)).setCell (p := ⟨w.heap.size + 1 + 1 + 1, 1, none⟩) (by show w.heap.size ≤ w.heap.size + 1 + 1 + 1; omega) (.int .i64 0)).setCell (p := ⟨w.heap.size + 1 + 1 + 1, 2, none⟩) (by show w.heap.size ≤ w.heap.size + 1 + 1 + 1; omega) (.bool false)).setCell (p := ⟨w.heap.size + 1 + 1 + 1 + 1, 0, none⟩) (by show w.heap.size ≤ w.heap.size + 1 + 1 + 1 + 1; omega) (.int .i64 0)).setCell (p := ⟨w.heap.size + 1 + 1 + 1 + 1, 1, none⟩) (by show w.heap.size ≤ w.heap.size + 1 + 1 + 1 + 1; omega) (.int .i64 0)).setCell (p := ⟨w.heap.size + 1 + 1 + 1 + 1, 2, none⟩) (by show w.heap.size ≤ w.heap.size + 1 + 1 + 1 + 1; omega) (.int .i64 0))
    go_wp2_with fail
    generalize World.setCell (World.setCell (World.setCell (World.setCell (World.setCell (World.setCell w2 _ _) _ _) _ _) _ _) _ _) _ _ = F at *
    obtain ⟨f0, f1, f2, f3, f4, f5⟩ := HFin.out
    refine bodyPost_ret (v := .tuple #[.agg #[.int .i64 0, .int .i64 0, .bool false], .agg #[.int .i64 0, .int .i64 0, .int .i64 0], .int .i64 ge]) (by simp [results, Tryz.results9, go_sem, f0, f1, f2, f3, f4, f5]) rfl ⟨by rw [HZ.out], BN.out⟩
end Go.Proofs.YtdoklolinbmhpaaGreat
