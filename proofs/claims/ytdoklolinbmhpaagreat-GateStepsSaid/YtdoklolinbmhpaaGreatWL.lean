/- Gate, part WK: after how many steps a set is shut. -/
import Derived.Test.YtdoklolinbmhpaaGreatWJ
import Derived.Deep.LoopGhost
import Derived.WalkMore
import Derived.Test.YtdoklolinbmhpaaGreatVH
set_option linter.all false
namespace Go.Proofs.YtdoklolinbmhpaaGreat
open Go.RowKit

theorem search_shut {gs : List Gt} {rs : List Ru} {ts : List Sp} {hs : List Bool} {n f : Nat} {ss : List St} (h : shutB gs ss = true) : searchF gs rs ts hs n f ss = ((n : Int), 0) := by
  cases f <;> simp [searchF, h]
theorem search_end {gs : List Gt} {rs : List Ru} {ts : List Sp} {hs : List Bool} {n : Nat} {ss : List St} (h : shutB gs ss = false) : searchF gs rs ts hs n 0 ss = (0, 9) := by
  simp [searchF, h]
theorem search_go {gs : List Gt} {rs : List Ru} {ts : List Sp} {hs : List Bool} {n f : Nat} {ss : List St} (h : shutB gs ss = false) : searchF gs rs ts hs n (f + 1) ss = searchF gs rs ts hs (n + 1) f (nextF gs rs ss ts hs) := by
  simp [searchF, h]
/-- What stands at the head of a round. -/
structure ToGo (w : World) (gs : List Gt) (rs : List Ru) (ts : List Sp) (hs : List Bool) (n : Nat) (R : Int × Int) (k : Nat) (sa : Option Addr) (ss : List St) (wr : World) : Prop where
  rows : RowsL (fun _ s => stL s) 3 wr sa ss
  len : ss.length = n
  good : ∀ i, i < n → StGood (gs.getD i default) (ss.getD i default)
  eq : R = searchF gs rs ts hs k (2000 - k) ss
theorem next_get {gs : List Gt} {rs : List Ru} {ss : List St} {ts : List Sp} {hs : List Bool} {i : Nat} (hi : i < gs.length) : (nextF gs rs ss ts hs).getD i default = (moveF gs rs ss ts hs i).1 := by
  unfold nextF; simp [List.getD, hi]
theorem ToGo.next {w wr w' : World} {gs : List Gt} {rs : List Ru} {ts : List Sp} {hs : List Bool} {n : Nat} {R : Int × Int} {k A : Nat} {sa : Option Addr} {ss : List St} (h : ToGo w gs rs ts hs n R k sa ss wr) (hn : gs.length = n) (hgd : SetGood gs rs) (hk : k < 2000) (hsh : shutB gs ss = false) (hA : A < w'.heap.size)
    (hat : ∀ j, j < n → w'.rangeAt A (j * 3) (stL (moveF gs rs ss ts hs j).1)) : ToGo w gs rs ts hs n R (k + 1) (some ⟨A, 0, none⟩) (nextF gs rs ss ts hs) w' := by
  have hl : (nextF gs rs ss ts hs).length = n := by unfold nextF; simp [hn]
  refine ⟨.inr ⟨A, 0, rfl, hA, fun i hi => ?_⟩, hl, fun i hi => ?_, ?_⟩
  · have hi' : i < n := by omega
    have e : (nextF gs rs ss ts hs)[i] = (moveF gs rs ss ts hs i).1 := by
      have := next_get (gs := gs) (rs := rs) (ss := ss) (ts := ts) (hs := hs) (i := i) (by omega)
      rwa [show (nextF gs rs ss ts hs).getD i default = (nextF gs rs ss ts hs)[i] by simp [List.getD, hi]] at this
    rw [e, Nat.zero_add]
    exact hat i hi'
  · rw [next_get (by omega)]
    exact step_good (hgd.gates i (by omega)) (h.good i hi) _ _
  · rw [h.eq]
    obtain ⟨f, hf⟩ : ∃ f, 2000 - k = f + 1 := ⟨2000 - k - 1, by omega⟩
    rw [hf, search_go hsh, show 2000 - (k + 1) = f by omega]
set_option maxRecDepth 100000 in
set_option maxHeartbeats 4000000 in
theorem stepsToShut_any (ga sa ta ha ra : Option Addr) (gs : List Gt) (rs : List Ru) (ss : List St) (ts : List Sp) (hs : List Bool) (gc sc tc hc rc n : Nat) (ps : Nat → GtP) (w : World) (hn : gs.length = n) (hgr : RowsL (fun i g => gtL g (ps i)) 21 w ga gs) (hgo : ∀ i (h : i < gs.length), GtOk w (ps i) gs[i]) (hru : RowsL (fun _ r => ruL r) 4 w ra rs)
    (hss : RowsL (fun _ s => stL s) 3 w sa ss) (hts : RowsL (fun _ s => spL s) 4 w ta ts) (hhs : RowsL (fun _ b => [.bool b]) 1 w ha hs) (ls : ss.length = n) (lt : ts.length = n) (lh : hs.length = n) (hgood : SetGood gs rs)
    (hst : ∀ i, i < n → StGood (gs.getD i default) (ss.getD i default)) (hsp : ∀ i, i < n → SpGood (ts.getD i default)) :
    Calls Tryz.prog 46 #[.agg #[.slice ga n gc, .slice ra rs.length rc], .slice sa n sc, .slice ta n tc, .slice ha n hc] w fun e w' => e = .returned (.tuple #[.int .i64 (searchF gs rs ts hs 0 2000 ss).1, .int .i64 (searchF gs rs ts hs 0 2000 ss).2]) ∧ Below w.heap.size w w' := by
  obtain ⟨R, hR⟩ : ∃ R, R = searchF gs rs ts hs 0 2000 ss := ⟨_, rfl⟩
  rw [← hR]
  have hn6 : n ≤ 6 := by have := hgood.glen; omega
  have HT := hid (show ToGo w gs rs ts hs n R 0 sa ss w from ⟨hss, ls, hst, hR⟩)
  have HGr := hid hgr; have HGo := hid hgo; have HRu := hid hru; have HTs := hid hts; have HHs := hid hhs
  have HLg := hid hn; have HLt := hid lt; have HLh := hid lh; have HGd := hid hgood; have HSp0 := hid hsp
  clear hR hgr hgo hru hss hts hhs hn ls lt lh hgood hst hsp
  have hB1 : Below w.heap.size w (w.alloc (.cells #[.slice ga n gc, .slice ra rs.length rc] 60)) := (Below.refl _ _).alloc (Nat.le_refl _) _
  have S1 : w.heap.size < (w.alloc (.cells #[.slice ga n gc, .slice ra rs.length rc] 60)).heap.size := by simp
  have z0 : (w.alloc (.cells #[.slice ga n gc, .slice ra rs.length rc] 60)).cell? ⟨w.heap.size, 0, none⟩ = some (.slice ga n gc) := by simp [go_sem]
  have z1 : (w.alloc (.cells #[.slice ga n gc, .slice ra rs.length rc] 60)).cell? ⟨w.heap.size, 1, none⟩ = some (.slice ra rs.length rc) := by simp [go_sem]
  go_enter Tryz.func46, Tryz.ntmps46
  go_wp2_with fail
  have HT1 : Hid (ToGo w gs rs ts hs n R 0 sa ss (w.alloc (.cells #[.slice ga n gc, .slice ra rs.length rc] 60))) := hid ⟨HT.out.rows.later hB1 (Nat.le_refl _), HT.out.len, HT.out.good, HT.out.eq⟩
  clear HT
  generalize World.alloc w _ = W1 at *
  go_step3
  go_wp2_with fail
  go_step3
  go_wp2_with fail
  go_loopg [1, 10] 2000 (fun m sv nv wr => ∃ (k : Nat) (a : Option Addr) (c : Nat) (l : List St), m + k = 2000 ∧ nv = .int .i64 k ∧ sv = .slice a n c ∧ Hid (ToGo w gs rs ts hs n R k a l wr) ∧ Below w.heap.size w wr ∧ w.heap.size < wr.heap.size ∧ wr.cell? ⟨w.heap.size, 0, none⟩ = some (.slice ga n gc) ∧ wr.cell? ⟨w.heap.size, 1, none⟩ = some (.slice ra rs.length rc))
  case atStart => exact ⟨0, sa, sc, ss, rfl, rfl, rfl, HT1, hB1, S1, z0, z1⟩
  case round =>
    obtain ⟨k, a, c, l, hk, rfl, rfl, HI, hbw, sw, y0, y1⟩ := hrel
    clear z0 z1 HT1
    have HAr := hid (areShut_any ga a gs l gc c ps wr (HGr.out.later hbw (Nat.le_refl _)) HI.out.rows (by rw [HI.out.len, HLg.out]) (by rw [HLg.out]; omega))
    have e1 := HLg.out; have e2 := HI.out.len
    rw [e1, e2] at HAr
    clear e1 e2
    obtain ⟨b, hb⟩ : ∃ b, shutB gs l = b := ⟨_, rfl⟩
    rw [hb] at HAr
    have HB := hid hb
    clear hb
    go_wp2_with fail
    refine (HAr.out).mono ?_
    rintro e w1 ⟨rfl, hb1⟩
    have hbw1 := hbw.trans (hb1.mono hbw.size)
    have HI1 := hid (show ToGo w gs rs ts hs n R k a l w1 from ⟨HI.out.rows.later hb1 (Nat.le_refl _), HI.out.len, HI.out.good, HI.out.eq⟩)
    have x0 := (hb1.cell (p := ⟨w.heap.size, 0, none⟩) sw).trans y0
    have x1 := (hb1.cell (p := ⟨w.heap.size, 1, none⟩) sw).trans y1
    have sw1 := Nat.lt_of_lt_of_le sw hb1.size
    clear y0 y1 HI HAr hb1 hbw sw
    cases b
    · by_cases hk2 : k = 2000
      · have HK := hid hk2
        have q : ((k : Int) == 2000) = true := by simp [hk2]
        clear hk2
        go_wp2_with fail
        try rw [Exit.noGoto_ret]
        go_ret2
        have e : R = (0, 9) := by rw [HI1.out.eq, HK.out]; exact search_end HB.out
        exact ⟨ret_two (by rw [e]) (by rw [e]), hbw1⟩
      · have q : ((k : Int) == 2000) = false := by simp; omega
        have hk3 : k < 2000 := by omega
        clear hk2
        have HMv := hid (move_any ga a ta ha ra gs rs l ts hs gc c tc hc rc n ps w1 HLg.out (HGr.out.later hbw1 (Nat.le_refl _)) (fun i h => (HGo.out i h).later hbw1 (Nat.le_refl _)) (HRu.out.later hbw1 (Nat.le_refl _)) HI1.out.rows (HTs.out.later hbw1 (Nat.le_refl _)) (HHs.out.later hbw1 (Nat.le_refl _)) HI1.out.len HLt.out HLh.out HGd.out HI1.out.good HSp0.out)
        go_wp2_with fail
        refine (HMv.out).mono ?_
        rintro e w2 ⟨A, B, rfl, ⟨hA, -⟩, hat, -, hb2⟩
        have hbw2 := hbw1.trans (hb2.mono hbw1.size)
        have HI2 := hid (HI1.out.next HLg.out HGd.out hk3 HB.out hA hat)
        have v0 := (hb2.cell (p := ⟨w.heap.size, 0, none⟩) sw1).trans x0
        have v1 := (hb2.cell (p := ⟨w.heap.size, 1, none⟩) sw1).trans x1
        have sw2 := Nat.lt_of_lt_of_le sw1 hb2.size
        have V0 := hid v0; have V1 := hid v1
        clear x0 x1 hat HI1 HMv hb2 v0 v1
        go_wp2_with fail
        go_roundg (gk - 1)
        case rel => exact ⟨k + 1, some ⟨A, 0, none⟩, n, nextF gs rs l ts hs, by omega, by go_num, rfl, HI2, hbw2, sw2, V0.out, V1.out⟩
        case measure => omega
    · go_wp2_with fail
      try rw [Exit.noGoto_ret]
      go_ret2
      have e : R = ((k : Int), 0) := by rw [HI1.out.eq]; exact search_shut HB.out
      exact ⟨ret_two (by rw [e]) (by rw [e]), hbw1⟩
end Go.Proofs.YtdoklolinbmhpaaGreat

set_option linter.all false
namespace Go.Proofs.YtdoklolinbmhpaaGreat
open Go.RowKit

theorem callFunc_sts1 (args : Array Value) (w : World) : (callFunc 87 args).run Tryz.prog w = .ok (.enter 87 args) w := by simp [go_sem]
theorem keepSe {w x y : World} {g : Gt} {p : GtP} {i b o b2 o2 b3 o3 n gc sc tc lb mb nb : Nat} {s : St} {t : Sp} (hA : (b < w.heap.size ∧ b2 < w.heap.size ∧ b3 < w.heap.size) ∧ lb < w.heap.size ∧ mb < w.heap.size ∧ nb < w.heap.size) (hxy : Below x.heap.size x y) (h : Below w.heap.size w x ∧ x.rangeAt b (o + i * 21) (gtL g p) ∧ x.cell? ⟨b2, o2 + i * 3, none⟩ = some (.int .i64 s.pos) ∧ x.cell? ⟨b2, o2 + i * 3 + 1, none⟩ = some (.int .i64 s.charge) ∧ x.cell? ⟨b2, o2 + i * 3 + 2, none⟩ = some (.bool s.bolted) ∧ x.cell? ⟨b3, o3 + i * 4, none⟩ = some (.int .i64 t.order) ∧ x.cell? ⟨b3, o3 + i * 4 + 1, none⟩ = some (.bool t.power) ∧ x.cell? ⟨b3, o3 + i * 4 + 2, none⟩ = some (.int .i64 t.outer) ∧ x.cell? ⟨b3, o3 + i * 4 + 3, none⟩ = some (.int .i64 t.inner) ∧ x.cell? ⟨lb, 0, none⟩ = some (.slice (some ⟨b, o, none⟩) n gc) ∧ x.cell? ⟨mb, 0, none⟩ = some (.slice (some ⟨b2, o2, none⟩) n sc) ∧ x.cell? ⟨nb, 0, none⟩ = some (.slice (some ⟨b3, o3, none⟩) n tc)) : Below w.heap.size w y ∧ y.rangeAt b (o + i * 21) (gtL g p) ∧ y.cell? ⟨b2, o2 + i * 3, none⟩ = some (.int .i64 s.pos) ∧ y.cell? ⟨b2, o2 + i * 3 + 1, none⟩ = some (.int .i64 s.charge) ∧ y.cell? ⟨b2, o2 + i * 3 + 2, none⟩ = some (.bool s.bolted) ∧ y.cell? ⟨b3, o3 + i * 4, none⟩ = some (.int .i64 t.order) ∧ y.cell? ⟨b3, o3 + i * 4 + 1, none⟩ = some (.bool t.power) ∧ y.cell? ⟨b3, o3 + i * 4 + 2, none⟩ = some (.int .i64 t.outer) ∧ y.cell? ⟨b3, o3 + i * 4 + 3, none⟩ = some (.int .i64 t.inner) ∧ y.cell? ⟨lb, 0, none⟩ = some (.slice (some ⟨b, o, none⟩) n gc) ∧ y.cell? ⟨mb, 0, none⟩ = some (.slice (some ⟨b2, o2, none⟩) n sc) ∧ y.cell? ⟨nb, 0, none⟩ = some (.slice (some ⟨b3, o3, none⟩) n tc) := by
  obtain ⟨below, rows, s0, s1, s2, t0, t1, t2, t3, z0, z1, z2⟩ := h
  have hs := below.size
  have c : ∀ q j, q < w.heap.size → y.cell? ⟨q, j, none⟩ = x.cell? ⟨q, j, none⟩ := fun q j hq => hxy.cell (p := ⟨q, j, none⟩) (by show q < x.heap.size; omega)
  exact ⟨below.trans (hxy.mono hs), range_later rows hxy (by omega), (c _ _ (by omega)).trans s0, (c _ _ (by omega)).trans s1, (c _ _ (by omega)).trans s2, (c _ _ (by omega)).trans t0, (c _ _ (by omega)).trans t1, (c _ _ (by omega)).trans t2, (c _ _ (by omega)).trans t3, (c _ _ (by omega)).trans z0, (c _ _ (by omega)).trans z1, (c _ _ (by omega)).trans z2⟩
set_option maxRecDepth 100000 in
set_option maxHeartbeats 2000000 in
theorem sts1_any (lb mb nb b o b2 o2 b3 o3 i n gc sc tc : Nat) (gs : List Gt) (ss : List St) (ts : List Sp) (ps : Nat → GtP) (hi : i < n) (hl : gs.length = n ∧ ss.length = n ∧ ts.length = n) (w : World)
    (z0 : w.cell? ⟨lb, 0, none⟩ = some (.slice (some ⟨b, o, none⟩) n gc)) (z1 : w.cell? ⟨mb, 0, none⟩ = some (.slice (some ⟨b2, o2, none⟩) n sc)) (z2 : w.cell? ⟨nb, 0, none⟩ = some (.slice (some ⟨b3, o3, none⟩) n tc))
    (hA : (b < w.heap.size ∧ b2 < w.heap.size ∧ b3 < w.heap.size) ∧ lb < w.heap.size ∧ mb < w.heap.size ∧ nb < w.heap.size)
    (hat : ∀ i (h : i < gs.length), w.rangeAt b (o + i * 21) (gtL gs[i] (ps i))) (hat2 : ∀ i (h : i < ss.length), w.rangeAt b2 (o2 + i * 3) (stL ss[i])) (hat3 : ∀ i (h : i < ts.length), w.rangeAt b3 (o3 + i * 4) (spL ts[i])) :
    Calls Tryz.prog 87 #[.int .i64 i, .pointer (some ⟨lb, 0, none⟩), .pointer (some ⟨mb, 0, none⟩), .pointer (some ⟨nb, 0, none⟩)] w fun e w' => e = .returned (.int .i64 (stsE gs ss ts i)) ∧ Below w.heap.size w w' := by
  have hg : i < gs.length := by omega
  have hs : i < ss.length := by omega
  have ht : i < ts.length := by omega
  have rows := hat i hg
  have Rs := hat2 i hs
  have Rt := hat3 i ht
  have HX := hid (show stsE gs ss ts i = spE gs[i] ss[i] ts[i] by unfold stsE; simp [List.getD, hg, hs, ht])
  generalize gs[i] = g at *
  generalize ss[i] = s at *
  generalize ts[i] = t at *
  generalize ps i = p at *
  have HE := hid (fun W => stepError_any g p s t W)
  rw [HX.out]
  generalize spE g s t = er at *
  have s0 : w.cell? ⟨b2, o2 + i * 3, none⟩ = some (.int .i64 s.pos) := by simpa using Rs 0 _ (show (stL s)[0]? = some (.int .i64 s.pos) from rfl)
  have s1 : w.cell? ⟨b2, o2 + i * 3 + 1, none⟩ = some (.int .i64 s.charge) := Rs 1 _ rfl
  have s2 : w.cell? ⟨b2, o2 + i * 3 + 2, none⟩ = some (.bool s.bolted) := Rs 2 _ rfl
  have t0 : w.cell? ⟨b3, o3 + i * 4, none⟩ = some (.int .i64 t.order) := by simpa using Rt 0 _ (show (spL t)[0]? = some (.int .i64 t.order) from rfl)
  have t1 : w.cell? ⟨b3, o3 + i * 4 + 1, none⟩ = some (.bool t.power) := Rt 1 _ rfl
  have t2 : w.cell? ⟨b3, o3 + i * 4 + 2, none⟩ = some (.int .i64 t.outer) := Rt 2 _ rfl
  have t3 : w.cell? ⟨b3, o3 + i * 4 + 3, none⟩ = some (.int .i64 t.inner) := Rt 3 _ rfl
  have hiI : (i : Int) < (n : Int) := by omega
  have hi0 : (0 : Int) ≤ (i : Int) := Int.natCast_nonneg _
  clear hat hat2 hat3 Rs Rt hg hs ht hl HX
  go_enter Tryz.func87, Tryz.ntmps87
  go_wp2_with fail
  refine wp_region_noPanic ?_
  refine wp_region_held_drew (S := (fun w' => Below w.heap.size w w' ∧ w'.rangeAt b (o + i * 21) (gtL g p) ∧ w'.cell? ⟨b2, o2 + i * 3, none⟩ = some (.int .i64 s.pos) ∧ w'.cell? ⟨b2, o2 + i * 3 + 1, none⟩ = some (.int .i64 s.charge) ∧ w'.cell? ⟨b2, o2 + i * 3 + 2, none⟩ = some (.bool s.bolted) ∧ w'.cell? ⟨b3, o3 + i * 4, none⟩ = some (.int .i64 t.order) ∧ w'.cell? ⟨b3, o3 + i * 4 + 1, none⟩ = some (.bool t.power) ∧ w'.cell? ⟨b3, o3 + i * 4 + 2, none⟩ = some (.int .i64 t.outer) ∧ w'.cell? ⟨b3, o3 + i * 4 + 3, none⟩ = some (.int .i64 t.inner) ∧ w'.cell? ⟨lb, 0, none⟩ = some (.slice (some ⟨b, o, none⟩) n gc) ∧ w'.cell? ⟨mb, 0, none⟩ = some (.slice (some ⟨b2, o2, none⟩) n sc) ∧ w'.cell? ⟨nb, 0, none⟩ = some (.slice (some ⟨b3, o3, none⟩) n tc))) (by kernel_rfl) ?_ (fun hHeld => ?_)
  · exact ⟨(Below.refl _ _).drew, fun j v hv => by simpa using rows j v hv, by simpa using s0, by simpa using s1, by simpa using s2, by simpa using t0, by simpa using t1, by simpa using t2, by simpa using t3, by simpa using z0, by simpa using z1, by simpa using z2⟩
  refine wpAnyH_take (i := 0) (oi := { dst := _, op := _, type := _, pos := _, after := _, guard := _ }) (v := ?_) rfl (by kernel_rfl) (by kernel_rfl) (by kernel_rfl) (fun _ _ _ h => h) (Or.inl ⟨by rfl, ?_⟩) (by assumption) ?_
  rotate_left
  · intro wS hSw; (try dsimp only at hSw); go_simp; try (with_reducible rfl)
  try simp only [Act.put, List.setIfInBounds_toArray, List.set_cons_zero, List.set_cons_succ]
  refine wpAnyH_take (i := 1) (oi := { dst := _, op := _, type := _, pos := _, after := _, guard := _ }) (v := ?_) rfl (by kernel_rfl) (by kernel_rfl) (by kernel_rfl) (fun _ _ _ h => h) (Or.inl ⟨by rfl, ?_⟩) (by assumption) ?_
  rotate_left
  · intro wS hSw; (try dsimp only at hSw); go_simp; try (with_reducible rfl)
  try simp only [Act.put, List.setIfInBounds_toArray, List.set_cons_zero, List.set_cons_succ]
  refine wpAnyH_take (i := 2) (oi := { dst := _, op := _, type := _, pos := _, after := _, guard := _ }) (v := ?_) rfl (by kernel_rfl) (by kernel_rfl) (by kernel_rfl) (fun _ _ _ h => h) (Or.inl ⟨by rfl, ?_⟩) (by assumption) ?_
  rotate_left
  · intro wS hSw; (try dsimp only at hSw); go_simp; try (with_reducible rfl)
  try simp only [Act.put, List.setIfInBounds_toArray, List.set_cons_zero, List.set_cons_succ]
  refine wpAnyH_take (i := 3) (oi := { dst := _, op := _, type := _, pos := _, after := _, guard := _ }) (v := ?_) rfl (by kernel_rfl) (by kernel_rfl) (by kernel_rfl) (fun _ _ _ h => h) (Or.inl ⟨by rfl, ?_⟩) (by assumption) ?_
  rotate_left
  · intro wS hSw; (try dsimp only at hSw); go_simp; try (with_reducible rfl)
  try simp only [Act.put, List.setIfInBounds_toArray, List.set_cons_zero, List.set_cons_succ]
  refine wpAnyH_take (i := 4) (oi := { dst := _, op := _, type := _, pos := _, after := _, guard := _ }) (v := .agg (gtL g p).toArray) rfl (by kernel_rfl) (by kernel_rfl) (by kernel_rfl) (fun _ _ _ h => h) (yieldsIf_load_mid (by rfl) 25 _ rfl b (o + i * 21) rfl (gtL g p) _ (fun _ hS => hS.2.1) Tryz.underlying25 rfl (by kernel_rfl)) (by assumption) ?_
  try simp only [Act.put, List.setIfInBounds_toArray, List.set_cons_zero, List.set_cons_succ]
  refine wpAnyH_take (i := 5) (oi := { dst := _, op := _, type := _, pos := _, after := _, guard := _ }) (v := ?_) rfl (by kernel_rfl) (by kernel_rfl) (by kernel_rfl) (fun _ _ _ h => h) (Or.inl ⟨by rfl, ?_⟩) (by assumption) ?_
  rotate_left
  · intro wS hSw; (try dsimp only at hSw); go_simp; try (with_reducible rfl)
  try simp only [Act.put, List.setIfInBounds_toArray, List.set_cons_zero, List.set_cons_succ]
  refine wpAnyH_take (i := 6) (oi := { dst := _, op := _, type := _, pos := _, after := _, guard := _ }) (v := ?_) rfl (by kernel_rfl) (by kernel_rfl) (by kernel_rfl) (fun _ _ _ h => h) (Or.inl ⟨by rfl, ?_⟩) (by assumption) ?_
  rotate_left
  · intro wS hSw; (try dsimp only at hSw); go_simp; try (with_reducible rfl)
  try simp only [Act.put, List.setIfInBounds_toArray, List.set_cons_zero, List.set_cons_succ]
  refine wpAnyH_take (i := 7) (oi := { dst := _, op := _, type := _, pos := _, after := _, guard := _ }) (v := ?_) rfl (by kernel_rfl) (by kernel_rfl) (by kernel_rfl) (fun _ _ _ h => h) (Or.inl ⟨by rfl, ?_⟩) (by assumption) ?_
  rotate_left
  · intro wS hSw; (try dsimp only at hSw); go_simp; try (with_reducible rfl)
  try simp only [Act.put, List.setIfInBounds_toArray, List.set_cons_zero, List.set_cons_succ]
  refine wpAnyH_take (i := 8) (oi := { dst := _, op := _, type := _, pos := _, after := _, guard := _ }) (v := ?_) rfl (by kernel_rfl) (by kernel_rfl) (by kernel_rfl) (fun _ _ _ h => h) (Or.inl ⟨by rfl, ?_⟩) (by assumption) ?_
  rotate_left
  · intro wS hSw; (try dsimp only at hSw); go_simp; try (with_reducible rfl)
  try simp only [Act.put, List.setIfInBounds_toArray, List.set_cons_zero, List.set_cons_succ]
  refine wpAnyH_take (i := 9) (oi := { dst := _, op := _, type := _, pos := _, after := _, guard := _ }) (v := ?_) rfl (by kernel_rfl) (by kernel_rfl) (by kernel_rfl) (fun _ _ _ h => h) (Or.inl ⟨by rfl, ?_⟩) (by assumption) ?_
  rotate_left
  · intro wS hSw; (try dsimp only at hSw); go_simp; try (with_reducible rfl)
  try simp only [Act.put, List.setIfInBounds_toArray, List.set_cons_zero, List.set_cons_succ]
  refine wpAnyH_take (i := 10) (oi := { dst := _, op := _, type := _, pos := _, after := _, guard := _ }) (v := ?_) rfl (by kernel_rfl) (by kernel_rfl) (by kernel_rfl) (fun _ _ _ h => h) (Or.inl ⟨by rfl, ?_⟩) (by assumption) ?_
  rotate_left
  · intro wS hSw; (try dsimp only at hSw); go_simp; try (with_reducible rfl)
  try simp only [Act.put, List.setIfInBounds_toArray, List.set_cons_zero, List.set_cons_succ]
  refine wpAnyH_take (i := 11) (oi := { dst := _, op := _, type := _, pos := _, after := _, guard := _ }) (v := ?_) rfl (by kernel_rfl) (by kernel_rfl) (by kernel_rfl) (fun _ _ _ h => h) (Or.inl ⟨by rfl, ?_⟩) (by assumption) ?_
  rotate_left
  · intro wS hSw; (try dsimp only at hSw); go_simp; try (with_reducible rfl)
  try simp only [Act.put, List.setIfInBounds_toArray, List.set_cons_zero, List.set_cons_succ]
  refine wpAnyH_take (i := 12) (oi := { dst := _, op := _, type := _, pos := _, after := _, guard := _ }) (v := ?_) rfl (by kernel_rfl) (by kernel_rfl) (by kernel_rfl) (fun _ _ _ h => h) (Or.inl ⟨by rfl, ?_⟩) (by assumption) ?_
  rotate_left
  · intro wS hSw; (try dsimp only at hSw); go_simp; try (with_reducible rfl)
  try simp only [Act.put, List.setIfInBounds_toArray, List.set_cons_zero, List.set_cons_succ]
  refine wpAnyH_ready (rs := [13]) (by kernel_rfl) (by simp) ?_
  refine AllReadyH.cons (o := { dst := _, op := _, type := _, pos := _, after := _, guard := _ }) rfl (fun K hK => ?_) AllReadyH.nil
  go_simp
  (go_at_call 27; (with_reducible refine (HE.out _).mono ?_); rintro e w' ⟨rfl, hbe⟩)
  try go_wp2_with fail
  refine hK.out _ _ ?_ (fun hHeld => ?_)
  · (try dsimp only); exact keepSe hA (by assumption) hHeld
  clear hK K
  try simp only [Act.put, List.setIfInBounds_toArray, List.set_cons_zero, List.set_cons_succ]
  refine wpAnyH_take (i := 14) (oi := { dst := _, op := _, type := _, pos := _, after := _, guard := _ }) (v := ?_) rfl (by kernel_rfl) (by kernel_rfl) (by kernel_rfl) (fun _ _ _ h => h) (Or.inl ⟨by rfl, ?_⟩) (by assumption) ?_
  rotate_left
  · intro wS hSw; (try dsimp only at hSw); go_simp; try (with_reducible rfl)
  try simp only [Act.put, List.setIfInBounds_toArray, List.set_cons_zero, List.set_cons_succ]
  refine wpAnyH_done (by kernel_rfl) ?_ _
  refine NoPanic.normal ?_
  have hfin := (by assumption : Below w.heap.size w _ ∧ _ ∧ _ ∧ _ ∧ _ ∧ _ ∧ _ ∧ _ ∧ _ ∧ _ ∧ _ ∧ _).1
  clear hHeld
  go_wp2_with fail
  go_ret
  exact ⟨rfl, hfin⟩
set_option maxRecDepth 100000 in
set_option maxHeartbeats 4000000 in
theorem stepsErrorEq_any (ga sa ta ha ra : Option Addr) (gs : List Gt) (rs : List Ru) (ss : List St) (ts : List Sp) (gc sc tc hc rc n : Nat) (ps : Nat → GtP) (w : World) (hn : gs.length = n) (hn8 : n ≤ 140737488355328) (hgr : RowsL (fun i g => gtL g (ps i)) 21 w ga gs)
    (hss : RowsL (fun _ s => stL s) 3 w sa ss) (hts : RowsL (fun _ s => spL s) 4 w ta ts) (ls : ss.length = n) (lt : ts.length = n) :
    Calls Tryz.prog 54 #[.agg #[.slice ga n gc, .slice ra rs.length rc], .slice sa n sc, .slice ta n tc, .slice ha n hc] w fun e w' => e = .returned (.int .i64 (stsP gs ss ts n)) ∧ Below w.heap.size w w' := by
  have HO := hid (show stsP gs ss ts n = (firstAt 0 [mustP true 0 2, eachP (stsE gs ss ts) 0 n]).2.2 by unfold stsP; rw [hn, ls, lt]; simp)
  generalize stsP gs ss ts n = op at *
  have B1 : Below w.heap.size w (((w.alloc (.cells #[.slice ga n gc, .slice ra rs.length rc] 60)).alloc (.cells #[.slice sa n sc] 36)).alloc (.cells #[.slice ta n tc] 28)) := (((Below.refl _ _).alloc (Nat.le_refl _) _).alloc (by simp) _).alloc (by simp <;> omega) _
  have hB1 : (((w.alloc (.cells #[.slice ga n gc, .slice ra rs.length rc] 60)).alloc (.cells #[.slice sa n sc] 36)).alloc (.cells #[.slice ta n tc] 28)).heap.size = w.heap.size + 3 := by simp
  have c0 : (((w.alloc (.cells #[.slice ga n gc, .slice ra rs.length rc] 60)).alloc (.cells #[.slice sa n sc] 36)).alloc (.cells #[.slice ta n tc] 28)).cell? ⟨w.heap.size, 0, none⟩ = some (.slice ga n gc) := by simp [go_sem]
  have c1 : (((w.alloc (.cells #[.slice ga n gc, .slice ra rs.length rc] 60)).alloc (.cells #[.slice sa n sc] 36)).alloc (.cells #[.slice ta n tc] 28)).cell? ⟨w.heap.size + 1, 0, none⟩ = some (.slice sa n sc) := by simp [go_sem]
  have c2 : (((w.alloc (.cells #[.slice ga n gc, .slice ra rs.length rc] 60)).alloc (.cells #[.slice sa n sc] 36)).alloc (.cells #[.slice ta n tc] 28)).cell? ⟨w.heap.size + 1 + 1, 0, none⟩ = some (.slice ta n tc) := by simp [go_sem]
  go_enter Tryz.func54, Tryz.ntmps54
  have HI : Hid (ChkI (w.heap.size + 3) (((w.alloc (.cells #[.slice ga n gc, .slice ra rs.length rc] 60)).alloc (.cells #[.slice sa n sc] 36)).alloc (.cells #[.slice ta n tc] 28)) 87 #[.pointer (some ⟨w.heap.size, 0, none⟩), .pointer (some ⟨w.heap.size + 1, 0, none⟩), .pointer (some ⟨w.heap.size + 1 + 1, 0, none⟩)] n (stsE gs ss ts)) := by
    refine hid ⟨callFunc_sts1, fun i hi W hW => ?_⟩
    obtain ⟨b, o, ea, hb, hat⟩ := hgr.row (by omega)
    obtain ⟨b2, o2, ea2, hb2, hat2⟩ := hss.row (by omega)
    obtain ⟨b3, o3, ea3, hb3, hat3⟩ := hts.row (by omega)
    have hWw := B1.trans (hW.mono (by omega))
    have hsW := hW.size
    exact sts1_any w.heap.size (w.heap.size + 1) (w.heap.size + 1 + 1) b o b2 o2 b3 o3 i n gc sc tc gs ss ts ps hi ⟨hn, ls, lt⟩ W (by rw [hW.cell (p := ⟨w.heap.size, 0, none⟩) (by show w.heap.size < _; omega), c0, ea]) (by rw [hW.cell (p := ⟨w.heap.size + 1, 0, none⟩) (by show w.heap.size + 1 < _; omega), c1, ea2]) (by rw [hW.cell (p := ⟨w.heap.size + 1 + 1, 0, none⟩) (by show w.heap.size + 1 + 1 < _; omega), c2, ea3]) ⟨⟨by omega, by omega, by omega⟩, by omega, by omega, by omega⟩ (fun i h => range_later (hat i h) hWw hb) (fun i h => range_later (hat2 i h) hWw hb2) (fun i h => range_later (hat3 i h) hWw hb3)
  clear hgr hss hts hn ls lt
  go_wp2_with fail
  generalize World.alloc (World.alloc (World.alloc w _) _) _ = W1 at *
  refine (must_any _ _ _ _).mono ?_
  rintro e w1 ⟨caps, rfl, hb, hchk⟩
  go_wp2_with fail
  refine (each_any (w.heap.size + 3) W1 n (stsE gs ss ts) _ _ _ hn8 (by have := hb.size; omega) (hb.mono (by omega)) HI.out).mono ?_
  rintro e w2 ⟨caps2, rfl, hb2, hchk2⟩
  go_wp2_with fail
  refine (first2_chain _ hchk hb2 hchk2).mono ?_
  rintro e w3 ⟨rfl, hb3⟩
  have q1 := hb.size
  have q2 := hb2.size
  have hfin := (((B1.trans (hb.mono (by omega))).trans (hb2.mono (by omega))).alloc (by omega) _).trans (hb3.mono (by simp <;> omega))
  generalize firstAt 0 _ = r at *
  go_wp2_with fail
  go_ret
  exact ⟨ret_iE (by rw [HO.out]), hfin⟩
end Go.Proofs.YtdoklolinbmhpaaGreat
