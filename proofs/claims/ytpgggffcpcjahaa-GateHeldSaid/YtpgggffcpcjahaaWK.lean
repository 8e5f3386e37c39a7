/- Gate, part WK: after how many steps a set is shut. -/
import Derived.Test.YtpgggffcpcjahaaWJ
import Derived.Deep.LoopGhost
import Derived.WalkMore
set_option linter.all false
namespace Go.Proofs.Ytpgggffcpcjahaa
open Go.RowKit

theorem search_shut {gs : List Gt} {rs : List Ru} {ts : List Sp} {hs : List Bool} {n f : Nat} {ss : List St} (h : shutB gs ss = true) : searchF gs rs ts hs n f ss = ((n : Int), 0) := by
  cases f <;> simp [searchF, h]
theorem search_end {gs : List Gt} {rs : List Ru} {ts : List Sp} {hs : List Bool} {n : Nat} {ss : List St} (h : shutB gs ss = false) : searchF gs rs ts hs n 0 ss = (0, 9) := by
  simp [searchF, h]
theorem search_go {gs : List Gt} {rs : List Ru} {ts : List Sp} {hs : List Bool} {n f : Nat} {ss : List St} (h : shutB gs ss = false) : searchF gs rs ts hs n (f + 1) ss = searchF gs rs ts hs (n + 1) f (nextF gs rs ss ts hs) := by
  simp [searchF, h]
/-- What stands at the head of a round. -/
structure ToGo (w : World) (gs : List Gt) (rs : List Ru) (ts : List Sp) (hs : List Bool) (n : Nat) (R : Int × Int) (k : Nat) (sa : Option Addr) (ss : List St) (wr : World) : Prop where
  rows : RowsL (fun _ s => stL s) 3 wr sa ss
  len : ss.length = n
  good : ∀ i, i < n → StGood (gs.getD i default) (ss.getD i default)
  eq : R = searchF gs rs ts hs k (2000 - k) ss
theorem next_get {gs : List Gt} {rs : List Ru} {ss : List St} {ts : List Sp} {hs : List Bool} {i : Nat} (hi : i < gs.length) : (nextF gs rs ss ts hs).getD i default = (moveF gs rs ss ts hs i).1 := by
  unfold nextF; simp [List.getD, hi]
theorem ToGo.next {w wr w' : World} {gs : List Gt} {rs : List Ru} {ts : List Sp} {hs : List Bool} {n : Nat} {R : Int × Int} {k A : Nat} {sa : Option Addr} {ss : List St} (h : ToGo w gs rs ts hs n R k sa ss wr) (hn : gs.length = n) (hgd : SetGood gs rs) (hk : k < 2000) (hsh : shutB gs ss = false) (hA : A < w'.heap.size)
    (hat : ∀ j, j < n → w'.rangeAt A (j * 3) (stL (moveF gs rs ss ts hs j).1)) : ToGo w gs rs ts hs n R (k + 1) (some ⟨A, 0, none⟩) (nextF gs rs ss ts hs) w' := by
  have hl : (nextF gs rs ss ts hs).length = n := by unfold nextF; simp [hn]
  refine ⟨.inr ⟨A, 0, rfl, hA, fun i hi => ?_⟩, hl, fun i hi => ?_, ?_⟩
  · have hi' : i < n := by omega
    have e : (nextF gs rs ss ts hs)[i] = (moveF gs rs ss ts hs i).1 := by
      have := next_get (gs := gs) (rs := rs) (ss := ss) (ts := ts) (hs := hs) (i := i) (by omega)
      rwa [show (nextF gs rs ss ts hs).getD i default = (nextF gs rs ss ts hs)[i] by simp [List.getD, hi]] at this
    rw [e, Nat.zero_add]
    exact hat i hi'
  · rw [next_get (by omega)]
    exact step_good (hgd.gates i (by omega)) (h.good i hi) _ _
  · rw [h.eq]
    obtain ⟨f, hf⟩ : ∃ f, 2000 - k = f + 1 := ⟨2000 - k - 1, by omega⟩
    rw [hf, search_go hsh, show 2000 - (k + 1) = f by omega]
set_option maxRecDepth 100000 in
set_option maxHeartbeats 4000000 in
theorem stepsToShut_any (ga sa ta ha ra : Option Addr) (gs : List Gt) (rs : List Ru) (ss : List St) (ts : List Sp) (hs : List Bool) (gc sc tc hc rc n : Nat) (ps : Nat → GtP) (w : World) (hn : gs.length = n) (hgr : RowsL (fun i g => gtL g (ps i)) 21 w ga gs) (hgo : ∀ i (h : i < gs.length), GtOk w (ps i) gs[i]) (hru : RowsL (fun _ r => ruL r) 4 w ra rs)
    (hss : RowsL (fun _ s => stL s) 3 w sa ss) (hts : RowsL (fun _ s => spL s) 4 w ta ts) (hhs : RowsL (fun _ b => [.bool b]) 1 w ha hs) (ls : ss.length = n) (lt : ts.length = n) (lh : hs.length = n) (hgood : SetGood gs rs)
    (hst : ∀ i, i < n → StGood (gs.getD i default) (ss.getD i default)) (hsp : ∀ i, i < n → SpGood (ts.getD i default)) :
    Calls Try.prog 67 #[.agg #[.slice ga n gc, .slice ra rs.length rc], .slice sa n sc, .slice ta n tc, .slice ha n hc] w fun e w' => e = .returned (.tuple #[.int .i64 (searchF gs rs ts hs 0 2000 ss).1, .int .i64 (searchF gs rs ts hs 0 2000 ss).2]) ∧ Below w.heap.size w w' := by
  obtain ⟨R, hR⟩ : ∃ R, R = searchF gs rs ts hs 0 2000 ss := ⟨_, rfl⟩
  rw [← hR]
  have hn6 : n ≤ 6 := by have := hgood.glen; omega
  have HT := hid (show ToGo w gs rs ts hs n R 0 sa ss w from ⟨hss, ls, hst, hR⟩)
  have HGr := hid hgr; have HGo := hid hgo; have HRu := hid hru; have HTs := hid hts; have HHs := hid hhs
  have HLg := hid hn; have HLt := hid lt; have HLh := hid lh; have HGd := hid hgood; have HSp0 := hid hsp
  clear hR hgr hgo hru hss hts hhs hn ls lt lh hgood hst hsp
  have hB1 : Below w.heap.size w (w.alloc (.cells #[.slice ga n gc, .slice ra rs.length rc] 25)) := (Below.refl _ _).alloc (Nat.le_refl _) _
  have S1 : w.heap.size < (w.alloc (.cells #[.slice ga n gc, .slice ra rs.length rc] 25)).heap.size := by simp
  have z0 : (w.alloc (.cells #[.slice ga n gc, .slice ra rs.length rc] 25)).cell? ⟨w.heap.size, 0, none⟩ = some (.slice ga n gc) := by simp [go_sem]
  have z1 : (w.alloc (.cells #[.slice ga n gc, .slice ra rs.length rc] 25)).cell? ⟨w.heap.size, 1, none⟩ = some (.slice ra rs.length rc) := by simp [go_sem]
  go_enter Try.func67, Try.ntmps67
  go_wp2_with fail
  have HT1 : Hid (ToGo w gs rs ts hs n R 0 sa ss (w.alloc (.cells #[.slice ga n gc, .slice ra rs.length rc] 25))) := hid ⟨HT.out.rows.later hB1 (Nat.le_refl _), HT.out.len, HT.out.good, HT.out.eq⟩
  clear HT
  generalize World.alloc w _ = W1 at *
  go_step3
  go_wp2_with fail
  go_step3
  go_wp2_with fail
  go_loopg [1, 10] 2000 (fun m sv nv wr => ∃ (k : Nat) (a : Option Addr) (c : Nat) (l : List St), m + k = 2000 ∧ nv = .int .i64 k ∧ sv = .slice a n c ∧ Hid (ToGo w gs rs ts hs n R k a l wr) ∧ Below w.heap.size w wr ∧ w.heap.size < wr.heap.size ∧ wr.cell? ⟨w.heap.size, 0, none⟩ = some (.slice ga n gc) ∧ wr.cell? ⟨w.heap.size, 1, none⟩ = some (.slice ra rs.length rc))
  case atStart => exact ⟨0, sa, sc, ss, rfl, rfl, rfl, HT1, hB1, S1, z0, z1⟩
  case round =>
    obtain ⟨k, a, c, l, hk, rfl, rfl, HI, hbw, sw, y0, y1⟩ := hrel
    clear z0 z1 HT1
    have HAr := hid (areShut_any ga a gs l gc c ps wr (HGr.out.later hbw (Nat.le_refl _)) HI.out.rows (by rw [HI.out.len, HLg.out]) (by rw [HLg.out]; omega))
    have e1 := HLg.out; have e2 := HI.out.len
    rw [e1, e2] at HAr
    clear e1 e2
    obtain ⟨b, hb⟩ : ∃ b, shutB gs l = b := ⟨_, rfl⟩
    rw [hb] at HAr
    have HB := hid hb
    clear hb
    go_wp2_with fail
    refine (HAr.out).mono ?_
    rintro e w1 ⟨rfl, hb1⟩
    have hbw1 := hbw.trans (hb1.mono hbw.size)
    have HI1 := hid (show ToGo w gs rs ts hs n R k a l w1 from ⟨HI.out.rows.later hb1 (Nat.le_refl _), HI.out.len, HI.out.good, HI.out.eq⟩)
    have x0 := (hb1.cell (p := ⟨w.heap.size, 0, none⟩) sw).trans y0
    have x1 := (hb1.cell (p := ⟨w.heap.size, 1, none⟩) sw).trans y1
    have sw1 := Nat.lt_of_lt_of_le sw hb1.size
    clear y0 y1 HI HAr hb1 hbw sw
    cases b
    · by_cases hk2 : k = 2000
      · have HK := hid hk2
        have q : ((k : Int) == 2000) = true := by simp [hk2]
        clear hk2
        go_wp2_with fail
        try rw [Exit.noGoto_ret]
        go_ret2
        have e : R = (0, 9) := by rw [HI1.out.eq, HK.out]; exact search_end HB.out
        exact ⟨ret_two (by rw [e]) (by rw [e]), hbw1⟩
      · have q : ((k : Int) == 2000) = false := by simp; omega
        have hk3 : k < 2000 := by omega
        clear hk2
        have HMv := hid (move_any ga a ta ha ra gs rs l ts hs gc c tc hc rc n ps w1 HLg.out (HGr.out.later hbw1 (Nat.le_refl _)) (fun i h => (HGo.out i h).later hbw1 (Nat.le_refl _)) (HRu.out.later hbw1 (Nat.le_refl _)) HI1.out.rows (HTs.out.later hbw1 (Nat.le_refl _)) (HHs.out.later hbw1 (Nat.le_refl _)) HI1.out.len HLt.out HLh.out HGd.out HI1.out.good HSp0.out)
        go_wp2_with fail
        refine (HMv.out).mono ?_
        rintro e w2 ⟨A, B, rfl, ⟨hA, -⟩, hat, -, hb2⟩
        have hbw2 := hbw1.trans (hb2.mono hbw1.size)
        have HI2 := hid (HI1.out.next HLg.out HGd.out hk3 HB.out hA hat)
        have v0 := (hb2.cell (p := ⟨w.heap.size, 0, none⟩) sw1).trans x0
        have v1 := (hb2.cell (p := ⟨w.heap.size, 1, none⟩) sw1).trans x1
        have sw2 := Nat.lt_of_lt_of_le sw1 hb2.size
        have V0 := hid v0; have V1 := hid v1
        clear x0 x1 hat HI1 HMv hb2 v0 v1
        go_wp2_with fail
        go_roundg (gk - 1)
        case rel => exact ⟨k + 1, some ⟨A, 0, none⟩, n, nextF gs rs l ts hs, by omega, by go_num, rfl, HI2, hbw2, sw2, V0.out, V1.out⟩
        case measure => omega
    · go_wp2_with fail
      try rw [Exit.noGoto_ret]
      go_ret2
      have e : R = ((k : Int), 0) := by rw [HI1.out.eq]; exact search_shut HB.out
      exact ⟨ret_two (by rw [e]) (by rw [e]), hbw1⟩
end Go.Proofs.Ytpgggffcpcjahaa
