/- Tide, part SW: the walk of TideVotes. -/
import Derived.Test.YtfjankkkeehioaaSV
import Derived.Test.YtfjankkkeehioaaTP
set_option linter.all false
namespace Go.Proofs.Ytfjankkkeehioaa
open Go.RowKit Go.Shelf

theorem within_ok (a b c d : Int) (w : World) (h1 : c ≤ a) (h2 : b ≤ d) :
    Calls Try.prog 45 #[.agg #[.int .i64 a, .int .i64 b], .agg #[.int .i64 c, .int .i64 d]] w fun e w' => e = .returned (.bool true) ∧ Below w.heap.size w w' := by
  go_enter Try.func45, Try.ntmps45
  go_wp2
  go_ret
  exact ⟨rfl, by repeat (first | exact Below.refl _ _ | refine Below.alloc ?_ (by simp <;> omega) _ | refine Below.drew ?_ | refine below_drewN ?_ _)⟩
theorem soundIs_bad {gs : List Gau} {wrong t now : Int} {r : (Int × Int) × Int} (h : SoundIs gs wrong t now r) (hb : askE gs t now ≠ 0 ∨ ¬ (0 ≤ wrong ∧ wrong ≤ (gs.length : Int) - 1)) : r.2 ≠ 0 := by
  unfold SoundIs at h
  split at h
  · rename_i h1; rw [h]; exact h1
  · rename_i h1
    rw [if_pos (hb.resolve_left h1)] at h
    rw [h]; decide
theorem soundIs_good {gs : List Gau} {wrong t now : Int} {r : (Int × Int) × Int} (h : SoundIs gs wrong t now r) (h1 : askE gs t now = 0) (h2 : 0 ≤ wrong ∧ wrong ≤ (gs.length : Int) - 1) : SoundRes (voiceL gs t now gs.length) ((gs.length : Int) - wrong) r := by
  unfold SoundIs at h
  rwa [if_neg (by simp [h1]), if_neg (by simpa using h2)] at h

set_option maxRecDepth 100000 in
set_option maxHeartbeats 16000000 in
theorem lawVotes_any (a : Option Addr) (cap : Nat) (gs : List Gau) (x y z lv : Int) (w : World) (hcap : gs.length ≤ cap) (hlen : gs.length ≤ 140737488355328) (hgs : GausAt w a gs) :
    Calls Try.prog 14 #[.slice a gs.length cap, .agg #[.int .i64 x, .int .i64 y, .int .i64 z], .int .i64 lv] w
      fun e w' => e = .returned (.bool true) ∧ Below w.heap.size w w' := by
  have HGs := hid hgs; clear hgs
  go_enter Try.func14, Try.ntmps14
  go_wp2_with fail
  generalize hW1 : World.alloc w _ = W1
  have B1 : Below w.heap.size w W1 := by rw [← hW1]; exact (Below.refl _ _).alloc (Nat.le_refl _) _
  have S1 : W1.heap.size = w.heap.size + 1 := by rw [← hW1]; simp
  have e0 : W1.cell? ⟨w.heap.size, 0, none⟩ = some (.int .i64 x) := by rw [← hW1]; simp [go_sem]
  have e1 : W1.cell? ⟨w.heap.size, 1, none⟩ = some (.int .i64 y) := by rw [← hW1]; simp [go_sem]
  have e2 : W1.cell? ⟨w.heap.size, 2, none⟩ = some (.int .i64 z) := by rw [← hW1]; simp [go_sem]
  clear hW1
  have KT := hid (show ∀ V, Below W1.heap.size W1 V → V.cell? ⟨w.heap.size, 0, none⟩ = some (.int .i64 x) ∧ V.cell? ⟨w.heap.size, 1, none⟩ = some (.int .i64 y) ∧ V.cell? ⟨w.heap.size, 2, none⟩ = some (.int .i64 z) from fun V hV =>
    have c : ∀ o, V.cell? ⟨w.heap.size, o, none⟩ = W1.cell? ⟨w.heap.size, o, none⟩ := fun o => hV.cell (p := ⟨w.heap.size, o, none⟩) (by show w.heap.size < _; omega)
    ⟨(c _).trans e0, (c _).trans e1, (c _).trans e2⟩)
  refine (agree_any a cap gs y z _ hcap hlen (HGs.out.later B1 (Nat.le_refl _))).mono ?_
  rintro e W2 ⟨m, L, er, b1, c1, rfl, _, hL8, hag, B2⟩
  have hs2 := B2.size
  have BW2 : Below w.heap.size w W2 := B1.trans (B2.mono (by omega))
  have HAg := hid hag
  clear e0 e1 e2 hag
  obtain ⟨e0, e1, e2⟩ := KT.out W2 B2
  go_wp2_with fail
  refine (sound_any a cap gs x y z _ hcap hlen (HGs.out.later BW2 (Nat.le_refl _))).mono ?_
  rintro e W3 ⟨r, rfl, hr, B3⟩
  have hs3 := B3.size
  have BW3 : Below w.heap.size w W3 := BW2.trans (B3.mono (by omega))
  have B13 : Below W1.heap.size W1 W3 := B2.trans (B3.mono hs2)
  have HR := hid hr
  clear e0 e1 e2 hr
  obtain ⟨e0, e1, e2⟩ := KT.out W3 B13
  have n1 : w.heap.size < W3.heap.size := by omega
  have hbad : (er ≠ 0 ∨ ¬ (0 ≤ x ∧ x ≤ (gs.length : Int) - 1)) → r.2 ≠ 0 := fun h => soundIs_bad HR.out (h.imp (fun h h0 => h (by have := HAg.out; unfold AgreeIs at this; rw [if_neg (by simp [h0])] at this; exact this.2.2)) id)
  have HBad := hid hbad
  clear hbad B2 B3
  by_cases he : er = 0
  · subst he
    have hae : askE gs y z = 0 := by
      by_cases h : askE gs y z = 0
      · exact h
      · have := HAg.out; unfold AgreeIs at this; rw [if_pos h] at this; exact absurd this.2.2.symm h
    have HAe := hid hae
    clear hae
    by_cases hx0 : x < 0
    · have hr2 : (r.2 != 0) = true := by simpa using HBad.out (.inr (by omega))
      go_wp2_with fail
      refine (awake_any _).mono ?_
      rintro e W5 ⟨rfl, B5⟩
      go_wp2_with fail
      go_ret
      exact ⟨rfl, (BW3.alloc (by omega) _).trans (B5.mono (by simp; omega))⟩
    · by_cases hx1 : (gs.length : Int) ≤ x
      · have hr2 : (r.2 != 0) = true := by simpa using HBad.out (.inr (by omega))
        go_wp2_with fail
        refine (awake_any _).mono ?_
        rintro e W5 ⟨rfl, B5⟩
        go_wp2_with fail
        go_ret
        exact ⟨rfl, (BW3.alloc (by omega) _).trans (B5.mono (by simp; omega))⟩
      · have hres := soundIs_good HR.out HAe.out ⟨by omega, by omega⟩
        have hmany : ManyOk (voiceL gs y z gs.length) m := by have := HAg.out; unfold AgreeIs at this; rw [if_neg (by simp [HAe.out])] at this; exact this.1
        have hoth : (L.length : Int) ≤ (gs.length : Int) - m := by
          have := HAg.out; unfold AgreeIs at this; rw [if_neg (by simp [HAe.out])] at this
          rw [this.2.1]; exact others_len hmany
        have hl8 := (askE_ok HAe.out).1
        have HLag := hid (fun lv W (hW : Below w.heap.size w W) => lagreed_any a cap gs lv y z W HAe.out (HGs.out.later hW (Nat.le_refl _)))
        have HSo := hid (fun W (hW : Below w.heap.size w W) => sound_any a cap gs (x + 1) y z W hcap hlen (HGs.out.later hW (Nat.le_refl _)))
        have HMo := hid (fun (q : (Int × Int) × Int) (h : SoundIs gs (x + 1) y z q) (hx : x + 1 < (gs.length : Int)) => soundIs_good h HAe.out ⟨by omega, by omega⟩)
        have hvl := voiceL_len gs y z gs.length
        have hxx : 0 ≤ x ∧ x < (gs.length : Int) := by omega
        generalize voiceL gs y z gs.length = V at *
        have hcl : ∀ l, cnt V l ≤ V.length := fun l => cnt_le V l
        have HCl := hid hcl
        clear hcl HR HBad hx0 hx1
        by_cases hr0 : r.2 = 0
        · obtain ⟨g1, g2, g3, g4⟩ := votes_some hres hr0 hmany
          have HG4 := hid g4
          have HRes := hid hres
          have hr2 : (r.2 != 0) = false := by simp [hr0]
          have hm1 : decide (m < (gs.length : Int) - x) = false := decide_eq_false (by omega)
          have hL1 : decide ((gs.length : Int) - m < (L.length : Int)) = false := decide_eq_false (by omega)
          have hmb : m ≤ 8 := by have := hmany.some; rcases this with ⟨_, h⟩ | ⟨q, h⟩ <;> have := HCl.out 0 <;> first | omega | (have := HCl.out q; omega)
          have HR0 := hid hr0
          have HMany := hid hmany
          clear g4 hres hmany hr0
          go_wp2_with fail
          generalize hWB : World.alloc W3 _ = WB
          have BB : Below W3.heap.size W3 WB := by rw [← hWB]; exact (Below.refl _ _).alloc (Nat.le_refl _) _
          have sB : WB.heap.size = W3.heap.size + 1 := by rw [← hWB]; simp
          have p0 : WB.cell? ⟨W3.heap.size, 0, none⟩ = some (.int .i64 r.1.1) := by rw [← hWB]; simp [go_sem]
          have p1 : WB.cell? ⟨W3.heap.size, 1, none⟩ = some (.int .i64 r.1.2) := by rw [← hWB]; simp [go_sem]
          have BWB : Below w.heap.size w WB := BW3.trans (BB.mono (by omega))
          have B1B : Below W1.heap.size W1 WB := B13.trans (BB.mono (by omega))
          have KP := hid (show ∀ U, Below WB.heap.size WB U → (U.cell? ⟨w.heap.size, 0, none⟩ = some (.int .i64 x) ∧ U.cell? ⟨w.heap.size, 1, none⟩ = some (.int .i64 y) ∧ U.cell? ⟨w.heap.size, 2, none⟩ = some (.int .i64 z)) ∧ U.cell? ⟨W3.heap.size, 0, none⟩ = some (.int .i64 r.1.1) ∧ U.cell? ⟨W3.heap.size, 1, none⟩ = some (.int .i64 r.1.2) from fun U hU =>
            ⟨KT.out U (B1B.trans (hU.mono B1B.size)), (hU.cell (p := ⟨W3.heap.size, 0, none⟩) (by show W3.heap.size < _; omega)).trans p0, (hU.cell (p := ⟨W3.heap.size, 1, none⟩) (by show W3.heap.size < _; omega)).trans p1⟩)
          clear hWB e0 e1 e2 p0 p1 n1 KT
          refine (HLag.out r.1.1 WB BWB).mono ?_
          rintro e W5 ⟨rfl, B5⟩
          obtain ⟨⟨e0, e1, e2⟩, p0, p1⟩ := KP.out W5 B5
          have d1 : decide ((cnt V r.1.1 : Int) < (gs.length : Int) - x) = false := decide_eq_false (by omega)
          have l5 := B5.size
          go_wp2_with fail
          refine (HLag.out r.1.2 W5 (BWB.trans (B5.mono BWB.size))).mono ?_
          rintro e W6 ⟨rfl, B6⟩
          have BB6 : Below WB.heap.size WB W6 := B5.trans (B6.mono l5)
          clear e0 e1 e2 p0 p1 d1
          obtain ⟨⟨e0, e1, e2⟩, p0, p1⟩ := KP.out W6 BB6
          have d2 : decide ((cnt V r.1.2 : Int) < (gs.length : Int) - x) = false := decide_eq_false (by omega)
          go_wp2_with fail
          refine (HLag.out lv W6 (BWB.trans (BB6.mono BWB.size))).mono ?_
          rintro e W7 ⟨rfl, B7⟩
          have BB7 : Below WB.heap.size WB W7 := BB6.trans (B7.mono BB6.size)
          clear e0 e1 e2 p0 p1 d2
          obtain ⟨⟨e0, e1, e2⟩, p0, p1⟩ := KP.out W7 BB7
          have d3 : decide (m < (cnt V lv : Int)) = false := decide_eq_false (by have := (HG4.out lv).1; omega)
          by_cases hn : (gs.length : Int) - x ≤ (cnt V lv : Int)
          · have dn : decide ((gs.length : Int) - x ≤ (cnt V lv : Int)) = true := decide_eq_true hn
            have hin := (HG4.out lv).2 hn
            clear hn
            go_wp2_with fail
            refine (lhas_any _ _ _ _).mono ?_
            rintro e W8 ⟨rfl, B8⟩
            rw [decide_eq_true hin]
            have BB8 : Below WB.heap.size WB W8 := BB7.trans (B8.mono BB7.size)
            clear e0 e1 e2 p0 p1 d3 dn hin
            obtain ⟨⟨e0, e1, e2⟩, p0, p1⟩ := KP.out W8 BB8
            by_cases hlast : x + 1 < (gs.length : Int)
            · have dl : decide ((gs.length : Int) ≤ x + 1) = false := decide_eq_false (by omega)
              have HLast := hid hlast
              clear hlast
              have zW : W3.heap.size < W8.heap.size := by have := BB8.size; omega
              go_wp2_with fail
              refine (HSo.out W8 (BWB.trans (BB8.mono BWB.size))).mono ?_
              rintro e WS ⟨q, rfl, hq, BS⟩
              obtain ⟨q0, q1, q2⟩ := votes_more HRes.out HR0.out (by have := HMo.out q hq HLast.out; rwa [show (gs.length : Int) - (x + 1) = (gs.length : Int) - x - 1 by omega] at this)
              have q0' : (q.2 == 0) = true := by simp [q0]
              have BBS : Below WB.heap.size WB WS := BB8.trans (BS.mono BB8.size)
              clear e0 e1 e2 p0 p1 hq
              obtain ⟨_, p0, p1⟩ := KP.out WS BBS
              have zS : W3.heap.size < WS.heap.size := by have := BBS.size; omega
              go_wp2_with fail
              refine (within_ok _ _ _ _ _ q1 q2).mono ?_
              rintro e WT ⟨rfl, BT⟩
              have BWT : Below w.heap.size w WT := ((BWB.trans (BBS.mono BWB.size)).alloc (by have := BWB.size; have := BBS.size; omega) _).trans (BT.mono (by simp; have := BWB.size; have := BBS.size; omega))
              go_wp2_with fail
              refine (awake_any _).mono ?_
              rintro e WU ⟨rfl, BU⟩
              go_wp2_with fail
              go_ret
              exact ⟨rfl, BWT.trans (BU.mono BWT.size)⟩
            · have dl : decide ((gs.length : Int) ≤ x + 1) = true := decide_eq_true (by omega)
              clear hlast
              go_wp2_with fail
              refine (awake_any _).mono ?_
              rintro e WU ⟨rfl, BU⟩
              go_wp2_with fail
              go_ret
              exact ⟨rfl, (BWB.trans (BB8.mono BWB.size)).trans (BU.mono (by have := BWB.size; have := BB8.size; omega))⟩
          · have dn : decide ((gs.length : Int) - x ≤ (cnt V lv : Int)) = false := decide_eq_false hn
            clear hn
            by_cases hlast : x + 1 < (gs.length : Int)
            · have dl : decide ((gs.length : Int) ≤ x + 1) = false := decide_eq_false (by omega)
              have HLast := hid hlast
              clear hlast
              have zW : W3.heap.size < W7.heap.size := by have := BB7.size; omega
              go_wp2_with fail
              refine (HSo.out W7 (BWB.trans (BB7.mono BWB.size))).mono ?_
              rintro e WS ⟨q, rfl, hq, BS⟩
              obtain ⟨q0, q1, q2⟩ := votes_more HRes.out HR0.out (by have := HMo.out q hq HLast.out; rwa [show (gs.length : Int) - (x + 1) = (gs.length : Int) - x - 1 by omega] at this)
              have q0' : (q.2 == 0) = true := by simp [q0]
              have BBS : Below WB.heap.size WB WS := BB7.trans (BS.mono BB7.size)
              clear e0 e1 e2 p0 p1 hq
              obtain ⟨_, p0, p1⟩ := KP.out WS BBS
              have zS : W3.heap.size < WS.heap.size := by have := BBS.size; omega
              go_wp2_with fail
              refine (within_ok _ _ _ _ _ q1 q2).mono ?_
              rintro e WT ⟨rfl, BT⟩
              have BWT : Below w.heap.size w WT := ((BWB.trans (BBS.mono BWB.size)).alloc (by have := BWB.size; have := BBS.size; omega) _).trans (BT.mono (by simp; have := BWB.size; have := BBS.size; omega))
              go_wp2_with fail
              refine (awake_any _).mono ?_
              rintro e WU ⟨rfl, BU⟩
              go_wp2_with fail
              go_ret
              exact ⟨rfl, BWT.trans (BU.mono BWT.size)⟩
            · have dl : decide ((gs.length : Int) ≤ x + 1) = true := decide_eq_true (by omega)
              clear hlast
              go_wp2_with fail
              refine (awake_any _).mono ?_
              rintro e WU ⟨rfl, BU⟩
              go_wp2_with fail
              go_ret
              exact ⟨rfl, (BWB.trans (BB7.mono BWB.size)).trans (BU.mono (by have := BWB.size; have := BB7.size; omega))⟩
        · obtain ⟨h9, hmn, hcn⟩ := votes_none hres hr0 hmany (by omega)
          have hr2 : (r.2 != 0) = true := by simp [hr0]
          have hr9 : (r.2 == 9) = true := by simp [h9]
          have hm1 : decide (m < (gs.length : Int) - x) = true := decide_eq_true hmn
          have hc1 : decide ((cnt V lv : Int) < (gs.length : Int) - x) = true := decide_eq_true (hcn lv)
          have HL := hid (HLag.out lv)
          clear hcn hmany hres hr0 h9 hmn hoth
          go_wp2_with fail
          refine (HL.out _ (BW3.alloc (by omega) _)).mono ?_
          rintro e W5 ⟨rfl, B5⟩
          have BW5 : Below w.heap.size w W5 := (BW3.alloc (by omega) _).trans (B5.mono (by simp; omega))
          go_wp2_with fail
          refine (awake_any _).mono ?_
          rintro e W6 ⟨rfl, B6⟩
          go_wp2_with fail
          go_ret
          exact ⟨rfl, BW5.trans (B6.mono BW5.size)⟩
  · have he' : (er != 0) = true := by simp [he]
    have hr2 : (r.2 != 0) = true := by simpa using HBad.out (.inl he)
    clear he
    go_wp2_with fail
    refine (awake_any _).mono ?_
    rintro e W5 ⟨rfl, B5⟩
    go_wp2_with fail
    go_ret
    exact ⟨rfl, (BW3.alloc (by omega) _).trans (B5.mono (by simp; omega))⟩
end Go.Proofs.Ytfjankkkeehioaa
