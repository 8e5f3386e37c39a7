/- Tide, part OB: the walk of TideOrders. -/
import Derived.Test.YtblneiegekdnjaaOA
import Derived.Test.YtblneiegekdnjaaOG
import Derived.Test.YtblneiegekdnjaaTP
import Derived.Deep.AppendLies
import Derived.Deep.RegionHeld3
set_option linter.all false
namespace Go.Proofs.Ytblneiegekdnjaa
open Go.RowKit Go.Shelf

theorem below_grown {B : Nat} {X w1 : World} {v : Value} {b : Nat} (h : X.grownBy w1 v.ownBlock) (hb : B ≤ b) (hs : B ≤ X.heap.size) (e : v.ownBlock = some b) : Below B X w1 :=
  ⟨h.os, h.tape, h.output, h.size, fun k hk => h.block k (by omega) (fun e' => by rw [e] at e'; cases e'; omega)⟩
theorem gau_one1 (g : Gau) (p : GPos) : ∀ u ∈ gauCells g p, u.oneCell' = true := fun u hu => gau_one [(g, p)] u (by simpa [gauVals] using hu)
set_option maxRecDepth 100000 in
set_option maxHeartbeats 16000000 in
theorem lawOrders_any (a : Option Addr) (cap : Nat) (gs : List Gau) (x y z : Int) (w : World) (hcap : gs.length ≤ cap) (hlen : gs.length ≤ 140737488355328) (hgs : GausAt w a gs) :
    Calls Try.prog 15 #[.slice a gs.length cap, .agg #[.int .i64 x, .int .i64 y, .int .i64 z]] w
      fun e w' => e = .returned (.bool true) ∧ Below w.heap.size w w' := by
  by_cases h2 : gs.length < 2
  · have d2 : decide ((gs.length : Int) < 2) = true := decide_eq_true (by omega)
    clear hgs h2
    go_enter Try.func15, Try.ntmps15
    go_wp2_with fail
    refine (awake_any _).mono ?_
    rintro e W5 ⟨rfl, B5⟩
    go_wp2_with fail
    go_ret
    exact ⟨rfl, ((Below.refl _ _).alloc (Nat.le_refl _) _).trans (B5.mono (by simp))⟩
  have d2 : decide ((gs.length : Int) < 2) = false := decide_eq_false (by omega)
  by_cases h8 : 8 < gs.length
  · have d8 : decide ((8 : Int) < (gs.length : Int)) = true := decide_eq_true (by omega)
    clear hgs h2 h8
    go_enter Try.func15, Try.ntmps15
    go_wp2_with fail
    refine (awake_any _).mono ?_
    rintro e W5 ⟨rfl, B5⟩
    go_wp2_with fail
    go_ret
    exact ⟨rfl, ((Below.refl _ _).alloc (Nat.le_refl _) _).trans (B5.mono (by simp))⟩
  have d8 : decide ((8 : Int) < (gs.length : Int)) = false := decide_eq_false (by omega)
  obtain ⟨i0, hi, hz0, hz1, hz2⟩ := info_parts A.infoGau
  have HGs := hid hgs
  rcases hgs with h0 | ⟨b, o, ps, rfl, hs, hc⟩
  · rw [h0] at h2; simp at h2
  have hpos : 0 < gs.length := by omega
  have HAll := hid (show ∀ i (hi : i < gs.length), GauAt w b (o + i * 5) gs[i] (ps i) from fun i hi => (hc i hi).1)
  have HOk := hid (show ∀ i (hi : i < gs.length), GauOk w (ps i) gs[i] from fun i hi => (hc i hi).2)
  obtain ⟨c0, c1, c2, c3, c4⟩ := (hc 0 hpos).1
  simp only [Nat.zero_mul, Nat.add_zero] at c0 c1 c2 c3 c4
  have HG0 := hid (show gs.tail ++ [gs[0]] = gs.tail ++ [gs[0]] from rfl)
  have HPerm := hid (show gs.Perm (gs.tail ++ [gs[0]]) by
    cases gs with
    | nil => simp at hpos
    | cons g r => exact (List.perm_append_singleton g r).symm)
  have HOk2 := hid (show ∀ r ∈ prsG ps 1 gs.tail ++ [(gs[0], ps 0)], GauOk w r.2 r.1 by
    intro r hr
    rcases List.mem_append.1 hr with hr | hr
    · obtain ⟨i, hi, rfl⟩ := List.getElem_of_mem hr
      have hl : i < gs.tail.length := by rwa [prsG_len] at hi
      have hl' : 1 + i < gs.length := by rw [List.length_tail] at hl; omega
      rw [prsG_get ps 1 gs.tail i hi hl]
      have := HOk.out (1 + i) hl'
      simpa [Nat.add_comm] using this
    · rw [List.mem_singleton.1 hr]; exact HOk.out 0 hpos)
  have HTl := hid (List.length_tail (l := gs))
  have HTail := hid (prsG_tail HAll.out)
  have hk8 : gs.length ≤ 8 := by omega
  have hk2 : 2 ≤ gs.length := by omega
  have i1 : (1 : Int) ≤ (gs.length : Int) := by omega
  have i2 : (gs.length : Int) ≤ (cap : Int) := by omega
  have i3 : (0 : Int) < (gs.length : Int) := by omega
  clear hc h2 h8 HOk HAll
  generalize gs[0] = g0 at *
  generalize gs.tail = tl at *
  generalize ps 0 = p0 at *
  go_enter Try.func15, Try.ntmps15
  go_wp2_with fail
  generalize hW1 : World.alloc w _ = W1
  have B1 : Below w.heap.size w W1 := by rw [← hW1]; exact (Below.refl _ _).alloc (Nat.le_refl _) _
  have S1 : w.heap.size < W1.heap.size := by rw [← hW1]; simp
  have hc1 : ¬ cap = 1 := by omega
  have e0 : W1.cell? ⟨w.heap.size, 0, none⟩ = some (.int .i64 x) := by rw [← hW1]; simp [go_sem]
  have e1 : W1.cell? ⟨w.heap.size, 1, none⟩ = some (.int .i64 y) := by rw [← hW1]; simp [go_sem]
  have e2 : W1.cell? ⟨w.heap.size, 2, none⟩ = some (.int .i64 z) := by rw [← hW1]; simp [go_sem]
  clear hW1
  have KT := hid (show ∀ V, Below W1.heap.size W1 V → V.cell? ⟨w.heap.size, 0, none⟩ = some (.int .i64 x) ∧ V.cell? ⟨w.heap.size, 1, none⟩ = some (.int .i64 y) ∧ V.cell? ⟨w.heap.size, 2, none⟩ = some (.int .i64 z) from fun V hV =>
    have c : ∀ o, V.cell? ⟨w.heap.size, o, none⟩ = W1.cell? ⟨w.heap.size, o, none⟩ := fun o => hV.cell (p := ⟨w.heap.size, o, none⟩) (by show w.heap.size < _; omega)
    ⟨(c _).trans e0, (c _).trans e1, (c _).trans e2⟩)
  have hb1 : b < W1.heap.size := by omega
  have HD := hid (show ∀ V, Below W1.heap.size W1 V → (V.cell? ⟨b, o, none⟩ = some (.string g0.name) ∧ V.cell? ⟨b, o + 1, none⟩ = some (.int .i64 g0.err) ∧ V.cell? ⟨b, o + 2, none⟩ = some (.int .i64 g0.rate) ∧ V.cell? ⟨b, o + 3, none⟩ = some (.slice p0.da g0.ds.length p0.dc) ∧ V.cell? ⟨b, o + 4, none⟩ = some (.slice p0.ra g0.rs.length p0.rc)) from fun V hV =>
    have c : ∀ j, V.cell? ⟨b, j, none⟩ = w.cell? ⟨b, j, none⟩ := fun j => (hV.cell (p := ⟨b, j, none⟩) hb1).trans (B1.cell (p := ⟨b, j, none⟩) hs)
    ⟨(c _).trans c0, (c _).trans c1, (c _).trans c2, (c _).trans c3, (c _).trans c4⟩)
  have HT1 := hid (fun i (hi : i < (prsG ps 1 tl).length) => (HTail.out i hi).later B1 hs)
  have htl : tl.length = gs.length - 1 := HTl.out
  have HGc := hid (show ∀ V, Below W1.heap.size W1 V → ∀ k u, (gauVals (prsG ps 1 tl))[k]? = some u → V.cell? ((⟨b, o + 5, none⟩ : Addr).add k) = some u from fun V hV => gau_cells (fun i hi => (HT1.out i hi).later hV hb1))
  have HGl := hid (show (gauVals (prsG ps 1 tl)).length = (gs.length - 1) * 5 by rw [gauVals_len, prsG_len, htl])
  have HGo := hid (gau_one (prsG ps 1 tl))
  obtain ⟨GV, hGV⟩ : ∃ GV, gauVals (prsG ps 1 tl) = GV := ⟨_, rfl⟩
  rw [hGV] at HGc HGl HGo
  have HGV := hid hGV
  clear hGV
  have htp : 0 < tl.length := by omega
  clear c0 c1 c2 c3 c4 e0 e1 e2 d2 d8
  go_region_held3 (fun w' => (w'.cell? ⟨b, o, none⟩ = some (.string g0.name) ∧ w'.cell? ⟨b, o + 1, none⟩ = some (.int .i64 g0.err) ∧ w'.cell? ⟨b, o + 2, none⟩ = some (.int .i64 g0.rate) ∧ w'.cell? ⟨b, o + 3, none⟩ = some (.slice p0.da g0.ds.length p0.dc) ∧ w'.cell? ⟨b, o + 4, none⟩ = some (.slice p0.ra g0.rs.length p0.rc)))
    (exact HD.out _ (by repeat (first | exact Below.refl _ _ | assumption | refine Below.alloc ?_ (by first | omega | (simp <;> omega)) _ | refine Below.drew ?_)))
    (first
      | (refine step_append_lies _ (by rfl) _ _ _ (by rfl) W1.heap.size 43 i0 _ 5 80 Try.underlying48 hi hz0 hz1 hz2 rfl (by omega) (.slice (some ⟨W1.heap.size, 0, none⟩) 0 0) 0 [] (by rfl) (own_empty (by omega) (by first | exact heap_alloc_new W1 _ | exact (Below.heap_alloc _ _ _ (by simp)).trans (heap_alloc_new W1 _)))
          ⟨b, o + 5, none⟩ (gs.length - 1) (cap - 1) GV (by rfl) HGl.out (HGc.out _ (by repeat (first | exact Below.refl _ _ | assumption | refine Below.alloc ?_ (by first | omega | (simp <;> omega)) _ | refine Below.drew ?_))) HGo.out
          (by omega) (by unfold maxLen; omega) (by omega) (by first | omega | (simp <;> omega)) _ rfl ?_
         intro gg cp w1 hown1 hgrow hat hlt1
         rw [Nat.zero_add, List.nil_append] at hown1
         simp only [Nat.zero_add]
         have bw1 := (show Below W1.heap.size W1 _ from (by repeat (first | exact Below.refl _ _ | assumption | refine Below.alloc ?_ (by first | omega | (simp <;> omega)) _ | refine Below.drew ?_))).trans (below_grown (b := W1.heap.size) hgrow (by omega) (by first | omega | (simp <;> omega)) rfl)
         have hsw1 := bw1.size)
      | (refine step_append_lies _ (by rfl) _ _ _ (by rfl) W1.heap.size 43 i0 _ 5 80 Try.underlying48 hi hz0 hz1 hz2 rfl (by omega) (.slice (some ⟨W1.heap.size + 1, 0, none⟩) 0 0) 0 [] (by rfl) (own_empty (by omega) (by rw [← World.size_alloc W1 (.cells #[.string g0.name, .int .i64 g0.err, .int .i64 g0.rate, .slice p0.da g0.ds.length p0.dc, .slice p0.ra g0.rs.length p0.rc] 43)]; exact heap_alloc_new _ _))
          ⟨b, o + 5, none⟩ (gs.length - 1) (cap - 1) GV (by rfl) HGl.out (HGc.out _ (by repeat (first | exact Below.refl _ _ | assumption | refine Below.alloc ?_ (by first | omega | (simp <;> omega)) _ | refine Below.drew ?_))) HGo.out
          (by omega) (by unfold maxLen; omega) (by omega) (by first | omega | (simp <;> omega)) _ rfl ?_
         intro gg cp w1 hown1 hgrow hat hlt1
         rw [Nat.zero_add, List.nil_append] at hown1
         simp only [Nat.zero_add]
         have bw1 := (show Below W1.heap.size W1 _ from (by repeat (first | exact Below.refl _ _ | assumption | refine Below.alloc ?_ (by first | omega | (simp <;> omega)) _ | refine Below.drew ?_))).trans (below_grown (b := W1.heap.size + 1) hgrow (by omega) (by first | omega | (simp <;> omega)) rfl)
         have hsw1 := bw1.size)
      | (refine step_append_lies _ (by rfl) _ _ _ (by rfl) W1.heap.size 43 i0 _ 5 80 Try.underlying48 hi hz0 hz1 hz2 rfl (by omega) (.slice (some ⟨gg, 0, none⟩) (gs.length - 1) cp) (gs.length - 1) _ (by rfl) (hown1.alloc _)
          ⟨w1.heap.size, 0, none⟩ 1 1 (gauCells g0 p0) (by rfl) (by rfl) (World.news_of_block (cs := #[.string g0.name, .int .i64 g0.err, .int .i64 g0.rate, .slice p0.da g0.ds.length p0.dc, .slice p0.ra g0.rs.length p0.rc]) (t := 43) (fr := (0, 0)) (heap_alloc_new w1 _)) (gau_one1 g0 p0)
          (by omega) (by unfold maxLen; omega) (by omega) (by first | omega | (simp <;> omega)) _ rfl ?_
         intro g2 cq w2 hown2 hgrow2 hat2 hlt2
         have bw2 : Below W1.heap.size W1 w2 := (show Below W1.heap.size W1 _ from (by repeat (first | exact Below.refl _ _ | assumption | refine Below.alloc ?_ (by first | omega | (simp <;> omega)) _ | refine Below.drew ?_))).trans (below_own (hown1.alloc _) (Nat.le_refl _) (by first | omega | (simp <;> omega)) hgrow2)
         have hsw2 := bw2.size)
      | (refine step_append_lies _ (by rfl) _ _ _ (by rfl) W1.heap.size 43 i0 _ 5 80 Try.underlying48 hi hz0 hz1 hz2 rfl (by omega) (.slice (some ⟨gg, 0, none⟩) (gs.length - 1) cp) (gs.length - 1) _ (by rfl) hown1
          ⟨W1.heap.size + 1, 0, none⟩ 1 1 (gauCells g0 p0) (by rfl) (by rfl) (World.news_of_block (cs := #[.string g0.name, .int .i64 g0.err, .int .i64 g0.rate, .slice p0.da g0.ds.length p0.dc, .slice p0.ra g0.rs.length p0.rc]) (t := 43) (fr := (0, 0)) ((hgrow.block (W1.heap.size + 1) (by simp) (by intro hh; simp [Value.ownBlock] at hh)).trans (by rw [← World.size_alloc W1 (.cells #[] 43)]; exact heap_alloc_new _ _))) (gau_one1 g0 p0)
          (by omega) (by unfold maxLen; omega) (by omega) (by first | omega | (simp <;> omega)) _ rfl ?_
         intro g2 cq w2 hown2 hgrow2 hat2 hlt2
         have bw2 : Below W1.heap.size W1 w2 := (show Below W1.heap.size W1 _ from (by repeat (first | exact Below.refl _ _ | assumption | refine Below.alloc ?_ (by first | omega | (simp <;> omega)) _ | refine Below.drew ?_))).trans (below_own hown1 (Nat.le_refl _) (by first | omega | (simp <;> omega)) hgrow2)
         have hsw2 := bw2.size)
      | (refine step_append_lies _ (by rfl) _ _ _ (by rfl) W1.heap.size 43 i0 _ 5 80 Try.underlying48 hi hz0 hz1 hz2 rfl (by omega) (.slice (some ⟨gg, 0, none⟩) (gs.length - 1) cp) (gs.length - 1) _ (by rfl) hown1
          ⟨W1.heap.size, 0, none⟩ 1 1 (gauCells g0 p0) (by rfl) (by rfl) (World.news_of_block (cs := #[.string g0.name, .int .i64 g0.err, .int .i64 g0.rate, .slice p0.da g0.ds.length p0.dc, .slice p0.ra g0.rs.length p0.rc]) (t := 43) (fr := (0, 0)) ((hgrow.block W1.heap.size (by first | omega | (simp <;> omega)) (by intro hh; simp [Value.ownBlock] at hh)).trans ((Below.heap_alloc _ _ _ (by simp)).trans (heap_alloc_new W1 _)))) (gau_one1 g0 p0)
          (by omega) (by unfold maxLen; omega) (by omega) (by first | omega | (simp <;> omega)) _ rfl ?_
         intro g2 cq w2 hown2 hgrow2 hat2 hlt2
         have bw2 : Below W1.heap.size W1 w2 := (show Below W1.heap.size W1 _ from (by repeat (first | exact Below.refl _ _ | assumption | refine Below.alloc ?_ (by first | omega | (simp <;> omega)) _ | refine Below.drew ?_))).trans (below_own hown1 (Nat.le_refl _) (by first | omega | (simp <;> omega)) hgrow2)
         have hsw2 := bw2.size))
  all_goals
    have HOwn := hid hown2
    have HBw := hid bw2
    clear hown2 hown1 hgrow hgrow2 hat hat2 hlt1 hlt2 bw1 bw2
    have hs2 := HBw.out.size
    have BW2 : Below w.heap.size w w2 := B1.trans (HBw.out.mono (by omega))
    obtain ⟨a2, cap2, hv2, hcap2, hgs2⟩ := gausAt_of_own (l := prsG ps 1 tl ++ [(g0, p0)]) (show w2.ownsRow W1.heap.size 43 5 (.slice (some ⟨g2, 0, none⟩) (gs.length - 1 + 1) cq) (prsG ps 1 tl ++ [(g0, p0)]).length (gauVals (prsG ps 1 tl ++ [(g0, p0)])) by
      rw [gauVals_snoc, HGV.out]
      have e : (prsG ps 1 tl ++ [(g0, p0)]).length = gs.length - 1 + 1 := by rw [List.length_append, prsG_len, htl]; simp
      rw [e]; exact HOwn.out) (fun r hr => (HOk2.out r hr).later BW2 (Nat.le_refl _))
    have hmap : (prsG ps 1 tl ++ [(g0, p0)]).map Prod.fst = tl ++ [g0] := by rw [List.map_append, prsG_fst]; rfl
    rw [hmap] at hv2 hcap2 hgs2
    rw [hv2]
    have HGs2 := hid hgs2
    have HPm := hid HPerm.out
    have hl2 : (tl ++ [g0]).length ≤ 140737488355328 := by rw [List.length_append, htl]; simp; omega
    clear hmap hv2 hgs2 HOwn HD HT1 HTail HTl HOk2 HGV HGc HGl HGo
    generalize tl ++ [g0] = hs2' at *
    obtain ⟨e0, e1, e2⟩ := KT.out w2 HBw.out
    have n1 : w.heap.size < w2.heap.size := by omega
    go_wp2_with fail
    refine (sound_any (some ⟨b, o, none⟩) cap gs x y z _ hcap hlen (HGs.out.later BW2 (Nat.le_refl _))).mono ?_
    rintro e W3 ⟨⟨⟨r0, r1⟩, re⟩, rfl, hr, B3⟩
    have s3 := B3.size
    have BW3 : Below w.heap.size w W3 := BW2.trans (B3.mono (by omega))
    have BX3 : Below W1.heap.size W1 W3 := HBw.out.trans (B3.mono hs2)
    have HR := hid hr
    clear e0 e1 e2 n1 hr
    obtain ⟨e0, e1, e2⟩ := KT.out W3 BX3
    have n1 : w.heap.size < W3.heap.size := by omega
    go_wp2_with fail
    refine (sound_any a2 cap2 hs2' x y z _ hcap2 hl2 ((HGs2.out.later (show Below w2.heap.size w2 W3 from by assumption) (Nat.le_refl _)).later ((Below.refl W3.heap.size W3).alloc (Nat.le_refl _) _) (Nat.le_refl _))).mono ?_
    rintro e W4 ⟨⟨⟨q0, q1⟩, qe⟩, rfl, hq, B4⟩
    obtain ⟨hrq, hz⟩ := soundIs_perm HPm.out HR.out hq
    obtain ⟨rfl, rfl⟩ : r0 = q0 ∧ r1 = q1 := by simpa using hrq
    simp only at hz
    obtain ⟨b1, hb1', hb1''⟩ : ∃ b1 : Bool, (re == 0) = b1 ∧ (qe == 0) = b1 := ⟨_, rfl, by
      by_cases h : re = 0
      · simp [h, hz.1 h]
      · have h' : ¬ qe = 0 := fun e => h (hz.2 e)
        rw [beq_eq_false_iff_ne.2 h, beq_eq_false_iff_ne.2 h']⟩
    have s4 := B4.size
    simp only [World.size_alloc] at s4
    have B34 : Below W3.heap.size W3 W4 := ((Below.refl _ _).alloc (Nat.le_refl _) _).trans (B4.mono (by simp))
    have p0 : W4.cell? ⟨W3.heap.size, 0, none⟩ = some (.int .i64 r0) := (B4.cell (p := ⟨W3.heap.size, 0, none⟩) (by simp)).trans (by simp [go_sem])
    have p1 : W4.cell? ⟨W3.heap.size, 1, none⟩ = some (.int .i64 r1) := (B4.cell (p := ⟨W3.heap.size, 1, none⟩) (by simp)).trans (by simp [go_sem])
    have KP := hid (show ∀ U, Below W4.heap.size W4 U → U.cell? ⟨W3.heap.size, 0, none⟩ = some (.int .i64 r0) ∧ U.cell? ⟨W3.heap.size, 1, none⟩ = some (.int .i64 r1) from fun U hU =>
      ⟨(hU.cell (p := ⟨W3.heap.size, 0, none⟩) (by show W3.heap.size < _; omega)).trans p0, (hU.cell (p := ⟨W3.heap.size, 1, none⟩) (by show W3.heap.size < _; omega)).trans p1⟩)
    have BW4 : Below w.heap.size w W4 := BW3.trans (B34.mono (by omega))
    have BX4 : Below W1.heap.size W1 W4 := BX3.trans (B34.mono (by omega))
    have BY4 : Below w2.heap.size w2 W4 := B3.trans (B34.mono s3)
    have n2 : W3.heap.size < W4.heap.size := by omega
    clear e0 e1 e2 n1 B4 hq hrq hz HR B3 p0 p1
    obtain ⟨e0, e1, e2⟩ := KT.out W4 BX4
    have n1 : w.heap.size < W4.heap.size := by omega
    have s5 : W4.heap.size < W4.heap.size + 1 := by omega
    go_wp2_with fail
    generalize hWB : World.alloc W4 _ = WB
    have BB : Below W4.heap.size W4 WB := by rw [← hWB]; exact (Below.refl _ _).alloc (Nat.le_refl _) _
    have sB : W4.heap.size < WB.heap.size := by rw [← hWB]; simp
    have q0 : WB.cell? ⟨W4.heap.size, 0, none⟩ = some (.int .i64 r0) := by rw [← hWB]; simp [go_sem]
    have q1 : WB.cell? ⟨W4.heap.size, 1, none⟩ = some (.int .i64 r1) := by rw [← hWB]; simp [go_sem]
    have KQ := hid (show ∀ U, Below WB.heap.size WB U → U.cell? ⟨W4.heap.size, 0, none⟩ = some (.int .i64 r0) ∧ U.cell? ⟨W4.heap.size, 1, none⟩ = some (.int .i64 r1) from fun U hU =>
      ⟨(hU.cell (p := ⟨W4.heap.size, 0, none⟩) sB).trans q0, (hU.cell (p := ⟨W4.heap.size, 1, none⟩) sB).trans q1⟩)
    clear hWB q0 q1 e0 e1 e2 n1 n2
    refine (agree_any (some ⟨b, o, none⟩) cap gs y z _ hcap hlen (HGs.out.later (BW4.trans (BB.mono (by omega))) (Nat.le_refl _))).mono ?_
    rintro e W5 ⟨m, L, er, la, lc, rfl, _, _, hag, B5⟩
    have s6 := B5.size
    have B45 : Below W4.heap.size W4 W5 := BB.trans (B5.mono (by omega))
    obtain ⟨e0, e1, e2⟩ := KT.out W5 (BX4.trans (B45.mono (by omega)))
    have n1 : w.heap.size < W5.heap.size := by omega
    have HAg := hid hag
    clear hag
    go_wp2_with fail
    refine (agree_any a2 cap2 hs2' y z _ hcap2 hl2 (HGs2.out.later (BY4.trans (B45.mono (by omega))) (Nat.le_refl _))).mono ?_
    rintro e W6 ⟨m2, L2, ek, lb, ld, rfl, _, _, hag2, B6⟩
    obtain ⟨rfl, hz⟩ := agreeIs_perm HPm.out HAg.out hag2
    obtain ⟨b2, hb2', hb2''⟩ : ∃ b2 : Bool, (er == 0) = b2 ∧ (ek == 0) = b2 := ⟨_, rfl, by
      by_cases h : er = 0
      · simp [h, hz.1 h]
      · have h' : ¬ ek = 0 := fun e => h (hz.2 e)
        rw [beq_eq_false_iff_ne.2 h, beq_eq_false_iff_ne.2 h']⟩
    have B46 : Below W4.heap.size W4 W6 := B45.trans (B6.mono (by omega))
    obtain ⟨p0, p1⟩ := KP.out W6 B46
    obtain ⟨q0, q1⟩ := KQ.out W6 (B5.trans (B6.mono s6))
    have s7 := B6.size
    have n2 : W3.heap.size < W6.heap.size := by omega
    have n3 : W4.heap.size < W6.heap.size := by omega
    have BW6 : Below w.heap.size w W6 := BW4.trans (B46.mono (by omega))
    clear e0 e1 e2 hag2 HAg hz B5 B6 KT KP KQ
    cases b1 <;> cases b2
    all_goals
      go_wp2_with fail
      refine (awake_any _).mono ?_
      rintro e W7 ⟨rfl, B7⟩
      go_wp2_with fail
      go_ret
      exact ⟨rfl, BW6.trans (B7.mono (by omega))⟩
end Go.Proofs.Ytblneiegekdnjaa
