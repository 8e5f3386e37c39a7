/- Tide, part K: the check of a gauge. -/
import Derived.Test.YtblneiegekdnjaaTJ
import Derived.Test.YtblneiegekdnjaaTF
set_option linter.all false
namespace Go.Proofs.Ytblneiegekdnjaa
open Go.RowKit

set_option maxHeartbeats 1000000 in
theorem headError_any (g : Gau) (p : GPos) (w : World) (hn : g.name.size ≤ maxLen) :
    Calls Try.prog 67 #[.agg #[.string g.name, .int .i64 g.err, .int .i64 g.rate, .slice p.da g.ds.length p.dc, .slice p.ra g.rs.length p.rc]] w fun e w' => e = .returned (.int .i64 (headE g)) ∧ Below w.heap.size w w' := by
  obtain ⟨nm, er, ra, ds, rs⟩ := g
  simp only at *
  obtain ⟨E, hE⟩ : ∃ E, E = headE ⟨nm, er, ra, ds, rs⟩ := ⟨_, rfl⟩
  rw [← hE]
  unfold headE at hE
  have HE := hid hE; clear hE
  have hn' := hn
  unfold maxLen at hn'
  cases h1 : nameB nm.data.toList
  · have H1 := hid h1
    go_enter Try.func67, Try.ntmps67
    go_wp2_with fail
    refine (name_any _ _ hn).mono ?_
    rintro e w' ⟨rfl, rfl⟩
    rw [h1]
    go_wp2_with fail
    go_ret
    exact ⟨by rw [HE.out]; simp [H1.out]; try rfl, (Below.refl _ _).alloc (Nat.le_refl _) _⟩
  have H1 := hid h1
  cases h2 : inB er 0 5000
  all_goals
    have H2 := hid h2
    cases h3 : inB ra 0 5000
    all_goals
      have H3 := hid h3
      go_enter Try.func67, Try.ntmps67
      go_wp2_with fail
      refine (name_any _ _ hn).mono ?_
      rintro e w' ⟨rfl, rfl⟩
      rw [h1]
      go_wp2_with (go_at_call 63; refine (in_val _ _ _ _ _ (by assumption)).mono ?_; rintro e w' ⟨rfl, rfl⟩)
      go_ret
      exact ⟨by rw [HE.out]; simp [H1.out, H2.out, H3.out]; try rfl, (Below.refl _ _).alloc (Nat.le_refl _) _⟩

theorem keepP {B tb : Nat} {V W w1 : World} {x : Value} (hb : Below W.heap.size W w1) (h : Below B V W ∧ W.cell? ⟨tb, 0, none⟩ = some x) (ht : tb < B) (hB : B ≤ V.heap.size) : Below B V w1 ∧ w1.cell? ⟨tb, 0, none⟩ = some x := by
  have hs := Nat.le_trans hB h.1.size
  exact ⟨h.1.trans (hb.mono hs), by rw [hb.cell (p := ⟨tb, 0, none⟩) (by simp; omega)]; exact h.2⟩
theorem keepPLe {B : Nat} {V W : World} {x : Value} {p : Addr} (hB : B ≤ V.heap.size) (h : Below B V W ∧ W.cell? p = some x) : B ≤ W.heap.size := Nat.le_trans hB h.1.size
theorem keepPB {B : Nat} {V W : World} {x : Value} {p : Addr} (h : Below B V W ∧ W.cell? p = some x) : Below B V W := h.1

theorem first_two (p q : Int × Int) (hq : q.2 ≠ 0 ∨ q = (0, 0)) : (firstAt 0 [p, q]).2 = if p.2 ≠ 0 then p else q := by
  simp only [firstAt]
  split
  · rfl
  · split
    · rfl
    · rcases hq with h | h
      · contradiction
      · rw [h]
theorem each_or (f : Nat → Int) (n : Nat) : (eachP f 0 n).2 ≠ 0 ∨ eachP f 0 n = (0, 0) := by
  by_cases h : (eachP f 0 n).2 = 0
  · exact .inr (each_zero _ _ _ h)
  · exact .inl h

theorem dats_first (ds : List Dat) : (firstAt 0 [mustP (inB ds.length 1 8) 0 3, eachP (datE ds) 0 ds.length]).2 = datsP ds := by
  unfold datsP
  cases inB ds.length 1 8
  · rfl
  · exact (first_two (mustP true 0 3) _ (each_or _ _)).trans rfl
theorem rdgs_first (rs : List Rdg) : (firstAt 0 [mustP (decide ((rs.length : Int) ≤ 60)) 0 3, eachP (rdgE rs) 0 rs.length]).2 = rdgsP rs := by
  unfold rdgsP
  by_cases h : 60 < rs.length
  · rw [decide_eq_false (by omega), if_pos h]; rfl
  · rw [decide_eq_true (by omega), if_neg h]
    exact (first_two (mustP true 0 3) _ (each_or _ _)).trans rfl
theorem dats_or (ds : List Dat) : (datsP ds).2 ≠ 0 ∨ datsP ds = (0, 0) := by
  unfold datsP; split
  · left; simp
  · exact each_or _ _
theorem rdgs_or (rs : List Rdg) : (rdgsP rs).2 ≠ 0 ∨ rdgsP rs = (0, 0) := by
  unfold rdgsP; split
  · left; simp
  · exact each_or _ _

set_option maxRecDepth 100000 in
set_option maxHeartbeats 1000000 in
theorem checkDatums_any (a : Option Addr) (cap : Nat) (ds : List Dat) (w : World) (hlen : ds.length ≤ cap) (hcap : ds.length ≤ 140737488355328) (hat : RowsAt DatAt 3 w a ds) :
    Calls Try.prog 69 #[.slice a ds.length cap] w fun e w' => e = .returned (.tuple #[.int .i64 (datsP ds).1, .int .i64 (datsP ds).2]) ∧ Below w.heap.size w w' := by
  have HH := hid hat; clear hat
  go_enter Try.func69, Try.ntmps69
  go_wp2_with fail
  generalize hW1 : World.alloc w _ = W1
  have B1 : Below w.heap.size w W1 := by rw [← hW1]; exact (Below.refl _ _).alloc (Nat.le_refl _) _
  have S1 : w.heap.size < W1.heap.size := by rw [← hW1]; simp
  have t0 : W1.cell? ⟨w.heap.size, 0, none⟩ = some (.slice a ds.length cap) := by rw [← hW1]; simp [go_sem]
  clear hW1
  have hB1 : w.heap.size + 1 ≤ W1.heap.size := by omega
  have hI : ChkI (w.heap.size + 1) W1 100 #[.pointer (some ⟨w.heap.size, 0, none⟩)] ds.length (datE ds) := by
    refine ⟨callFunc_dat1, fun i hi W hW => ?_⟩
    rcases HH.out with h0 | ⟨b, o, rfl, hs, hc⟩
    · subst h0; simp at hi
    have hb2 : Below w.heap.size w W := B1.trans (hW.mono (by omega))
    have hws := hb2.size
    have hws2 := hW.size
    exact dat1_any _ b o cap ds i hi hcap hlen W (by omega) (by omega) ((hW.cell (p := ⟨w.heap.size, 0, none⟩) (by simp)).trans t0) (fun i hi => DatAt.later hb2 _ _ _ hs (hc i hi))
  go_region_held3 (fun w' => Below (w.heap.size + 1) W1 w' ∧ w'.cell? ⟨w.heap.size, 0, none⟩ = some (.slice a ds.length cap))
    (first | assumption | exact ⟨(Below.refl _ _).drew, by simpa using t0⟩ | exact keepP (by assumption) (by assumption) (Nat.lt_succ_self _) hB1 | exact keepP ((Below.refl _ _).alloc (Nat.le_refl _) _) (by assumption) (Nat.lt_succ_self _) hB1)
    (first
      | (go_at_call 63; refine (in_any _ _ _ _).mono ?_; rintro e w' ⟨rfl, rfl⟩)
      | (go_at_call 50; refine (must_any _ _ _ _).mono ?_; rintro e w' ⟨caps, rfl, hb, hchk⟩)
      | (go_at_call 52; refine (each_any (w.heap.size + 1) W1 ds.length (datE ds) _ _ _ (by omega) (by exact keepPLe hB1 (by assumption)) (by exact keepPB (by assumption)) hI).mono ?_; rintro e w' ⟨caps, rfl, hb, hchk⟩)
      | (go_at_call 49; apply Calls.mono; apply first2_chain; assumption; assumption; assumption; rintro e w' ⟨rfl, hb⟩))
  all_goals
    have hfin := keepPB (by assumption : Below (w.heap.size + 1) W1 _ ∧ World.cell? _ ⟨w.heap.size, 0, none⟩ = some (.slice a ds.length cap))
    have HF := hid (dats_first ds)
    generalize firstAt 0 _ = r at *
    go_wp2_with fail
    go_ret2
    refine ⟨ret_two (congrArg Prod.fst HF.out) (congrArg Prod.snd HF.out), ?_⟩
    exact B1.trans (hfin.mono (by omega))

set_option maxRecDepth 100000 in
set_option maxHeartbeats 1000000 in
theorem checkReadings_any (a : Option Addr) (cap : Nat) (rs : List Rdg) (w : World) (hlen : rs.length ≤ cap) (hcap : rs.length ≤ 140737488355328) (hat : RowsAt RdgAt 2 w a rs) :
    Calls Try.prog 71 #[.slice a rs.length cap] w fun e w' => e = .returned (.tuple #[.int .i64 (rdgsP rs).1, .int .i64 (rdgsP rs).2]) ∧ Below w.heap.size w w' := by
  have HH := hid hat; clear hat
  go_enter Try.func71, Try.ntmps71
  go_wp2_with fail
  generalize hW1 : World.alloc w _ = W1
  have B1 : Below w.heap.size w W1 := by rw [← hW1]; exact (Below.refl _ _).alloc (Nat.le_refl _) _
  have S1 : w.heap.size < W1.heap.size := by rw [← hW1]; simp
  have t0 : W1.cell? ⟨w.heap.size, 0, none⟩ = some (.slice a rs.length cap) := by rw [← hW1]; simp [go_sem]
  clear hW1
  have hB1 : w.heap.size + 1 ≤ W1.heap.size := by omega
  have hI : ChkI (w.heap.size + 1) W1 101 #[.pointer (some ⟨w.heap.size, 0, none⟩)] rs.length (rdgE rs) := by
    refine ⟨callFunc_rdg1, fun i hi W hW => ?_⟩
    rcases HH.out with h0 | ⟨b, o, rfl, hs, hc⟩
    · subst h0; simp at hi
    have hb2 : Below w.heap.size w W := B1.trans (hW.mono (by omega))
    have hws := hb2.size
    have hws2 := hW.size
    exact rdg1_any _ b o cap rs i hi hcap hlen W (by omega) (by omega) ((hW.cell (p := ⟨w.heap.size, 0, none⟩) (by simp)).trans t0) (fun i hi => RdgAt.later hb2 _ _ _ hs (hc i hi))
  go_region_held3 (fun w' => Below (w.heap.size + 1) W1 w' ∧ w'.cell? ⟨w.heap.size, 0, none⟩ = some (.slice a rs.length cap))
    (first | assumption | exact ⟨(Below.refl _ _).drew, by simpa using t0⟩ | exact keepP (by assumption) (by assumption) (Nat.lt_succ_self _) hB1 | exact keepP ((Below.refl _ _).alloc (Nat.le_refl _) _) (by assumption) (Nat.lt_succ_self _) hB1)
    (first
      | (go_at_call 63; refine (in_any _ _ _ _).mono ?_; rintro e w' ⟨rfl, rfl⟩)
      | (go_at_call 50; refine (must_any _ _ _ _).mono ?_; rintro e w' ⟨caps, rfl, hb, hchk⟩)
      | (go_at_call 52; refine (each_any (w.heap.size + 1) W1 rs.length (rdgE rs) _ _ _ (by omega) (by exact keepPLe hB1 (by assumption)) (by exact keepPB (by assumption)) hI).mono ?_; rintro e w' ⟨caps, rfl, hb, hchk⟩)
      | (go_at_call 49; apply Calls.mono; apply first2_chain; assumption; assumption; assumption; rintro e w' ⟨rfl, hb⟩))
  all_goals
    have hfin := keepPB (by assumption : Below (w.heap.size + 1) W1 _ ∧ World.cell? _ ⟨w.heap.size, 0, none⟩ = some (.slice a rs.length cap))
    have HF := hid (rdgs_first rs)
    generalize firstAt 0 _ = r at *
    go_wp2_with fail
    go_ret2
    refine ⟨ret_two (congrArg Prod.fst HF.out) (congrArg Prod.snd HF.out), ?_⟩
    exact B1.trans (hfin.mono (by omega))

/-! ### CheckGauge -/

/-- A gauge in a box of its own. -/
structure GauBox (w : World) (b : Nat) (g : Gau) (p : GPos) : Prop where
  c0 : w.cell? ⟨b, 0, none⟩ = some (.string g.name)
  c1 : w.cell? ⟨b, 1, none⟩ = some (.int .i64 g.err)
  c2 : w.cell? ⟨b, 2, none⟩ = some (.int .i64 g.rate)
  c3 : w.cell? ⟨b, 3, none⟩ = some (.slice p.da g.ds.length p.dc)
  c4 : w.cell? ⟨b, 4, none⟩ = some (.slice p.ra g.rs.length p.rc)
theorem GauBox.later {w w' : World} {b : Nat} {g : Gau} {p : GPos} {B : Nat} (h : GauBox w b g p) (hb : Below B w w') (hB : b < B) : GauBox w' b g p :=
  have e : ∀ o, w'.cell? ⟨b, o, none⟩ = w.cell? ⟨b, o, none⟩ := fun o => hb.cell (p := ⟨b, o, none⟩) hB
  ⟨(e _).trans h.c0, (e _).trans h.c1, (e _).trans h.c2, (e _).trans h.c3, (e _).trans h.c4⟩

theorem callFunc_cg1 (args : Array Value) (w : World) : (callFunc 66 args).run Try.prog w = .ok (.enter 66 args) w := by simp [go_sem]
theorem callFunc_cg2 (args : Array Value) (w : World) : (callFunc 68 args).run Try.prog w = .ok (.enter 68 args) w := by simp [go_sem]
theorem callFunc_cg3 (args : Array Value) (w : World) : (callFunc 70 args).run Try.prog w = .ok (.enter 70 args) w := by simp [go_sem]

theorem cg1_any (tb : Nat) (g : Gau) (p : GPos) (w : World) (hn : g.name.size ≤ maxLen) (hbox : GauBox w tb g p) :
    Calls Try.prog 66 #[.pointer (some ⟨tb, 0, none⟩)] w fun e w' => e = .returned (.tuple #[.int .i64 0, .int .i64 (headE g)]) ∧ Below w.heap.size w w' := by
  obtain ⟨c0, c1, c2, c3, c4⟩ := hbox
  have HC := hid (headError_any g p w hn)
  go_enter Try.func66, Try.ntmps66
  go_wp2_with fail
  refine HC.out.mono ?_
  rintro e w' ⟨rfl, hb⟩
  go_wp2_with fail
  go_ret2
  exact ⟨rfl, hb⟩
theorem cg2_any (tb : Nat) (g : Gau) (p : GPos) (w : World) (hok : GauOk w p g) (hbox : GauBox w tb g p) :
    Calls Try.prog 68 #[.pointer (some ⟨tb, 0, none⟩)] w fun e w' => e = .returned (.tuple #[.int .i64 (datsP g.ds).1, .int .i64 (datsP g.ds).2]) ∧ Below w.heap.size w w' := by
  obtain ⟨c0, c1, c2, c3, c4⟩ := hbox
  have HC := hid (checkDatums_any p.da p.dc g.ds w hok.wf.dlen hok.wf.dcap hok.ds)
  go_enter Try.func68, Try.ntmps68
  go_wp2_with fail
  refine HC.out.mono ?_
  rintro e w' ⟨rfl, hb⟩
  go_wp2_with fail
  go_ret2
  exact ⟨rfl, hb⟩
theorem cg3_any (tb : Nat) (g : Gau) (p : GPos) (w : World) (hok : GauOk w p g) (hbox : GauBox w tb g p) :
    Calls Try.prog 70 #[.pointer (some ⟨tb, 0, none⟩)] w fun e w' => e = .returned (.tuple #[.int .i64 (rdgsP g.rs).1, .int .i64 (rdgsP g.rs).2]) ∧ Below w.heap.size w w' := by
  obtain ⟨c0, c1, c2, c3, c4⟩ := hbox
  have HC := hid (checkReadings_any p.ra p.rc g.rs w hok.wf.rlen hok.wf.rcap hok.rs)
  go_enter Try.func70, Try.ntmps70
  go_wp2_with fail
  refine HC.out.mono ?_
  rintro e w' ⟨rfl, hb⟩
  go_wp2_with fail
  go_ret2
  exact ⟨rfl, hb⟩

/-- A gauge as a value. -/
abbrev Gau.val (g : Gau) (p : GPos) : Value := .agg #[.string g.name, .int .i64 g.err, .int .i64 g.rate, .slice p.da g.ds.length p.dc, .slice p.ra g.rs.length p.rc]
theorem gauge_first (g : Gau) : firstAt 0 [(0, headE g), datsP g.ds, rdgsP g.rs] = gaugeP g := by
  unfold gaugeP
  simp only [firstAt]
  split
  · rfl
  · split
    · rfl
    · split
      · rfl
      · rfl
theorem ret_three {a b c a' b' c' : Int} (h : (a, b, c) = (a', b', c')) : Ending.returned (.tuple #[.int .i64 a, .int .i64 b, .int .i64 c]) = Ending.returned (.tuple #[.int .i64 a', .int .i64 b', .int .i64 c']) := by
  simp only [Prod.mk.injEq] at h; rw [h.1, h.2.1, h.2.2]

set_option maxRecDepth 100000 in
set_option maxHeartbeats 1000000 in
theorem checkGauge_any (g : Gau) (p : GPos) (w : World) (hok : GauOk w p g) :
    Calls Try.prog 28 #[.agg #[.string g.name, .int .i64 g.err, .int .i64 g.rate, .slice p.da g.ds.length p.dc, .slice p.ra g.rs.length p.rc]] w fun e w' => e = .returned (.tuple #[.int .i64 (gaugeP g).1, .int .i64 (gaugeP g).2.1, .int .i64 (gaugeP g).2.2]) ∧ Below w.heap.size w w' := by
  have HH := hid hok; clear hok
  go_enter Try.func28, Try.ntmps28
  go_wp2_with fail
  generalize hW1 : World.alloc (World.alloc w _) _ = W1
  have B1 : Below w.heap.size w W1 := by rw [← hW1]; exact ((Below.refl _ _).alloc (Nat.le_refl _) _).alloc (by simp) _
  have S1 : w.heap.size + 1 < W1.heap.size := by rw [← hW1]; simp
  have hbox : GauBox W1 w.heap.size g p := by rw [← hW1]; exact ⟨by simp [go_sem], by simp [go_sem], by simp [go_sem], by simp [go_sem], by simp [go_sem]⟩
  have k0 : W1.cell? ⟨w.heap.size + 1, 0, none⟩ = some (.func (.func 66) #[] #[.pointer (some ⟨w.heap.size, 0, none⟩)]) := by rw [← hW1]; simp [go_sem]
  have k1 : W1.cell? ⟨w.heap.size + 1, 1, none⟩ = some (.func (.func 68) #[] #[.pointer (some ⟨w.heap.size, 0, none⟩)]) := by rw [← hW1]; simp [go_sem]
  have k2 : W1.cell? ⟨w.heap.size + 1, 2, none⟩ = some (.func (.func 70) #[] #[.pointer (some ⟨w.heap.size, 0, none⟩)]) := by rw [← hW1]; simp [go_sem]
  clear hW1
  have hlat : ∀ W, Below W1.heap.size W1 W → GauOk W p g ∧ GauBox W w.heap.size g p := fun W hW => ⟨HH.out.later (B1.trans (hW.mono (by omega))) (Nat.le_refl _), hbox.later hW (by omega)⟩
  have h1 : Chk W1.heap.size W1 66 #[.pointer (some ⟨w.heap.size, 0, none⟩)] (0, headE g) := ⟨callFunc_cg1, fun W hW => cg1_any _ g p W HH.out.wf.name (hlat W hW).2⟩
  have h2 : Chk W1.heap.size W1 68 #[.pointer (some ⟨w.heap.size, 0, none⟩)] (datsP g.ds) := ⟨callFunc_cg2, fun W hW => cg2_any _ g p W (hlat W hW).1 (hlat W hW).2⟩
  have h3 : Chk W1.heap.size W1 70 #[.pointer (some ⟨w.heap.size, 0, none⟩)] (rdgsP g.rs) := ⟨callFunc_cg3, fun W hW => cg3_any _ g p W (hlat W hW).1 (hlat W hW).2⟩
  have hF := first_any W1.heap.size W1 [(0, headE g), datsP g.ds, rdgsP g.rs] (w.heap.size + 1) 0 3
    (fun i => match i with | 0 => 66 | 1 => 68 | _ => 70) (fun _ => #[.pointer (some ⟨w.heap.size, 0, none⟩)]) W1 (by simp) (Nat.le_refl _) (Below.refl _ _) (by omega)
    (fun i hi => by
      match i, hi with
      | 0, _ => exact k0
      | 1, _ => exact k1
      | 2, _ => exact k2)
    (fun i hi => by
      match i, hi with
      | 0, _ => exact h1
      | 1, _ => exact h2
      | 2, _ => exact h3)
  have HF := hid hF
  clear hF h1 h2 h3 hlat k0 k1 k2 hbox
  have HG := hid (gauge_first g)
  generalize firstAt 0 _ = r at *
  refine HF.out.mono ?_
  rintro e w' ⟨rfl, hb⟩
  go_wp2_with fail
  refine bodyPost_ret (v := .tuple #[.int .i64 r.1, .int .i64 r.2.1, .int .i64 r.2.2]) (by simp [results, Try.results28, go_sem]) rfl ⟨?_, B1.trans (hb.mono (by omega))⟩
  rw [HG.out]
end Go.Proofs.Ytblneiegekdnjaa
