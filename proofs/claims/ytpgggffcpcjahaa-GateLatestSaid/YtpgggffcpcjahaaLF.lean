/- Gate, part LF: the walk of GateFalls. -/
import Derived.Test.YtpgggffcpcjahaaLA
import Derived.Test.YtpgggffcpcjahaaYA
set_option linter.all false
namespace Go.Proofs.Ytpgggffcpcjahaa
open Go.RowKit

/-- A gate and one more argument of a few cells, in memory. -/
structure GxW (w : World) (g : Gt) (p : GtP) (cs : List Value) (x : World) : Prop where
  below : Below w.heap.size w x
  lt : w.heap.size + 1 < x.heap.size
  rows : x.rangeAt w.heap.size 0 (gtL g p)
  cs : x.rangeAt (w.heap.size + 1) 0 cs
theorem GxW.later {w x y : World} {g : Gt} {p : GtP} {cs : List Value} (h : GxW w g p cs x) (hb : Below x.heap.size x y) : GxW w g p cs y := by
  have hl := h.lt
  exact ⟨bthen h.below hb, Nat.lt_of_lt_of_le hl hb.size, range_later h.rows hb (by omega), range_later h.cs hb (by omega)⟩
theorem GxW.start (w : World) (g : Gt) (p : GtP) (cs : List Value) (T : TypeId) : GxW w g p cs ((w.alloc (.cells (gtL g p).toArray 33)).alloc (.cells cs.toArray T)) := by
  have hA : Below w.heap.size w (w.alloc (.cells (gtL g p).toArray 33)) := (Below.refl _ _).alloc (Nat.le_refl _) _
  have R0 := range_alloc w (gtL g p) 33
  have sA : (w.alloc (.cells (gtL g p).toArray 33)).heap.size = w.heap.size + 1 := by simp
  generalize w.alloc (.cells (gtL g p).toArray 33) = A at *
  have R1 := range_alloc A cs T
  have hB : Below A.heap.size A (A.alloc (.cells cs.toArray T)) := (Below.refl _ _).alloc (Nat.le_refl _) _
  rw [sA] at R1
  exact ⟨bthen hA hB, by simp [sA], range_later R0 hB (by omega), R1⟩
theorem stE_ok {g : Gt} {s : St} (h : StGood g s) : stE g s = 0 := by
  unfold stE; rw [if_neg]; rw [inB_iff.2 h.pos, inB_iff.2 h.charge]; simp
theorem ordE_ok {t : Sp} (h : SpGood t) : ordE t = 0 := by
  unfold ordE; rw [if_neg (by rw [inB_iff.2 h.order]; simp), if_neg]; rw [inB_iff.2 h.outer, inB_iff.2 h.inner]; simp
theorem spE_ok {g : Gt} {s : St} {t : Sp} (h : StGood g s) (k : SpGood t) : spE g s t = 0 := by
  unfold spE; rw [if_neg (by simp [stE_ok h]), ordE_ok k]
theorem closeT_ok {o i : Int} (h : lvB o i = true) (pw : Bool) : SpGood (toCloseT o i pw) := by
  unfold lvB at h; simp only [Bool.and_eq_true, inB_iff] at h
  exact ⟨(by decide : (0 : Int) ≤ 1 ∧ (1 : Int) ≤ 2), h.1, h.2⟩
theorem at_ok {g : Gt} (hg : GtGood g) {x : Int} (h : 0 ≤ x ∧ x ≤ g.travel) : StGood g ⟨x, 0, false⟩ := ⟨h, Int.le_refl _, hg.cap.1⟩
theorem fallsP_two (g : Gt) (o i : Int) : (∃ x, x ≠ 0 ∧ fallsP g o i = (0, x)) ∨ (gtE g = 0 ∧ lvB o i = true ∧ fallsP g o i = (fallF g o i, 0)) := by
  unfold fallsP
  by_cases h : gtE g = 0
  · rw [if_neg (by simp [h])]
    cases h2 : lvB o i
    · left; exact ⟨7, by decide, rfl⟩
    · right; exact ⟨h, rfl, rfl⟩
  · left; exact ⟨_, h, by rw [if_pos h]⟩
theorem step_fall {g : Gt} {o i x : Int} (h0 : gtE g = 0) (hl : lvB o i = true) (hx : 0 ≤ x) (h : fallF g o i = x) : stepP g ⟨x, 0, false⟩ ⟨1, false, o, i⟩ = (stepF g ⟨x, 0, false⟩ ⟨1, false, o, i⟩ 0, 0) ∧ (stepF g ⟨x, 0, false⟩ ⟨1, false, o, i⟩ 0).1.pos = x := by
  have hg := gtGood h0
  obtain ⟨h1, h2⟩ := fall_at hx h
  have hs := at_ok hg (x := x) ⟨hx, by omega⟩
  refine ⟨?_, fall_rest hg ⟨hx, by omega⟩ h2⟩
  unfold stepP; rw [if_neg (by simp [h0]), if_neg]
  have := spE_ok hs (closeT_ok hl false)
  unfold toCloseT at this
  simp [this]
theorem time_fall {g : Gt} {o i x : Int} (h0 : gtE g = 0) (hl : lvB o i = true) (h : fallF g o i < 0) (hx : 0 ≤ x ∧ x ≤ g.travel) (pw : Bool) : timeP g ⟨x, 0, false⟩ o i pw = if 2000 < (g.travel - x + g.gravity - 1) / g.gravity then (0, 9) else ((g.travel - x + g.gravity - 1) / g.gravity, 0) := by
  have hg := gtGood h0
  unfold timeP; rw [if_neg (by simp [h0]), if_neg (by simp [spE_ok (at_ok hg hx) (closeT_ok hl pw)])]
  exact fall_time hg (at_ok hg hx) rfl o i pw (fall_of h)
theorem u16_wf {x : Int} (h : (Lit.int .u16 x).wf = true) : 0 ≤ x ∧ x ≤ 65535 := by
  simp [Lit.wf, IntKind.min, IntKind.max, IntKind.signed, IntKind.bits] at h
  omega
set_option maxRecDepth 100000 in
set_option maxHeartbeats 8000000 in
theorem lawFalls_any (g : Gt) (p : GtP) (o i : Int) (pw : Bool) (fr : Int) (w : World) (hok : GtOk w p g) (hfr : 0 ≤ fr ∧ fr ≤ 65535) :
    Calls Try.prog 7 #[.agg (gtL g p).toArray, .agg #[.int .i64 o, .int .i64 i, .bool pw], .int .u16 fr] w fun e w' => e = .returned (.bool true) ∧ Below w.heap.size w w' := by
  have HOk := hid hok
  have HFr := hid hfr
  clear hok hfr
  have H0 := hid (GxW.start w g p [.int .i64 o, .int .i64 i, .bool pw] 69)
  have R1 := H0.out.rows
  have x0 := range_cell H0.out.cs (show [_, _, _][0]? = some (.int .i64 o) from rfl)
  have x1 := range_cell H0.out.cs (show [_, _, _][1]? = some (.int .i64 i) from rfl)
  have x2 := range_cell H0.out.cs (show [_, _, _][2]? = some (.bool pw) from rfl)
  have HF := hid (fun W (hW : GtOk W p g) => falls_any g p o i W hW)
  rcases fallsP_two g o i with ⟨x, hx, hE⟩ | ⟨hg0, hl0, hE⟩
  · rw [hE] at HF
    dsimp only at HF
    have q : (x != 0) = true := by simp [hx]
    clear hE hx
    go_enter Try.func7, Try.ntmps7
    go_wp2_with (refine wpList_load_mid rfl 33 _ rfl _ 0 rfl (gtL g p) _ (R1) Try.underlying33 rfl (by kernel_rfl) ?_)
    refine (HF.out _ (HOk.out.later H0.out.below (Nat.le_refl _))).mono ?_
    rintro e w1 ⟨rfl, hb⟩
    have H1 := hid (H0.out.later hb)
    have l1b := H1.out.lt
    have l1a : w.heap.size < w1.heap.size := by omega
    clear x0 x1 x2 hb R1
    go_wp2_with fail
    refine (awake_any _).mono ?_
    rintro e w9 ⟨rfl, hb9⟩
    go_wp2_with fail
    go_ret
    exact ⟨rfl, bthen H1.out.below hb9⟩
  · have hg := gtGood hg0
    rw [hE] at HF
    dsimp only at HF
    have hr := fall_range hg o i
    have hgr := hg.gravity; have htr := hg.travel
    have HS := hid (fun x (hx : 0 ≤ x) (h : fallF g o i = x) => step_fall hg0 hl0 hx h)
    have HT := hid (fun h x (hx : 0 ≤ x ∧ x ≤ g.travel) pw => time_fall hg0 hl0 h hx pw (x := x))
    clear hE hg0 hl0 hg
    generalize fallF g o i = f at *
    go_enter Try.func7, Try.ntmps7
    go_wp2_with (refine wpList_load_mid rfl 33 _ rfl _ 0 rfl (gtL g p) _ (R1) Try.underlying33 rfl (by kernel_rfl) ?_)
    refine (HF.out _ (HOk.out.later H0.out.below (Nat.le_refl _))).mono ?_
    rintro e w1 ⟨rfl, hb⟩
    have H1 := hid (H0.out.later hb)
    have l1b := H1.out.lt
    have l1a : w.heap.size < w1.heap.size := by omega
    clear x0 x1 x2 hb R1
    have x0 := range_cell H1.out.cs (show [_, _, _][0]? = some (.int .i64 o) from rfl)
    have x1 := range_cell H1.out.cs (show [_, _, _][1]? = some (.int .i64 i) from rfl)
    have x2 := range_cell H1.out.cs (show [_, _, _][2]? = some (.bool pw) from rfl)
    have k1 := range_cell H1.out.rows (show (gtL g p)[14]? = some (.int .i64 g.gravity) from rfl)
    have k2 := range_cell H1.out.rows (show (gtL g p)[2]? = some (.int .i64 g.travel) from rfl)
    have q1 : decide (g.travel < 1) = false := by simp; omega
    have q2 : decide (g.gravity < 1) = false := by simp; omega
    have q3 : decide (f < -1) = false := by simp; omega
    have q4 : decide (g.travel ≤ f) = false := by simp; omega
    have R1 := H1.out.rows
    by_cases hf : 0 ≤ f
    · have q5 : decide (0 ≤ f) = true := by simp [hf]
      obtain ⟨e1, e2⟩ := HS.out f hf rfl
      have HP := hid (fun W (hW : GtOk W p g) => stepFn_any g p ⟨f, 0, false⟩ ⟨1, false, o, i⟩ W hW)
      rw [e1] at HP
      generalize stepF g ⟨f, 0, false⟩ ⟨1, false, o, i⟩ 0 = u at *
      have qu : (u.1.pos == f) = true := by simp [e2]
      dsimp only at HP
      clear e1 e2 HS HT hf
      go_wp2_with (refine wpList_load_mid rfl 33 _ rfl _ 0 rfl (gtL g p) _ ((H1.out.later ((Below.refl _ _).alloc (Nat.le_refl _) _)).rows) Try.underlying33 rfl (by kernel_rfl) ?_)
      refine (HP.out _ (HOk.out.later (H1.out.later ((Below.refl _ _).alloc (Nat.le_refl _) _)).below (Nat.le_refl _))).mono ?_
      rintro e w2 ⟨rfl, hb2⟩
      have b12 := bthen ((Below.refl w1.heap.size w1).alloc (Nat.le_refl _) _) hb2
      have H2 := hid (H1.out.later b12)
      clear x0 x1 x2 k1 k2 R1 hb2
      go_wp2_with fail
      refine (awake_any _).mono ?_
      rintro e w9 ⟨rfl, hb9⟩
      go_wp2_with fail
      go_ret
      exact ⟨rfl, bthen (bthen H2.out.below (((Below.refl _ _).alloc (Nat.le_refl _) _).alloc (by simp) _)) hb9⟩
    · have q5 : decide (0 ≤ f) = false := by simp; omega
      have hA : 0 ≤ fr.tmod (g.travel + 1) ∧ fr.tmod (g.travel + 1) ≤ g.travel := by
        have h1 := Int.tmod_nonneg (g.travel + 1) HFr.out.1
        have h2 := Int.tmod_lt_of_pos fr (show 0 < g.travel + 1 by omega)
        omega
      have w1' : IntKind.i64.wrap (g.travel + 1) = g.travel + 1 := IntWalk.i64_in _ (by omega)
      have wf : IntKind.i64.wrap fr = fr := IntWalk.i64_in _ (by have := HFr.out; omega)
      have n1 : ¬ g.travel + 1 = 0 := by omega
      have HA := hid hA
      have wr : IntKind.i64.wrap (fr.tmod (g.travel + 1)) = fr.tmod (g.travel + 1) := IntWalk.i64_in _ (by omega)
      have HT1 := hid (HT.out (by omega) _ hA)
      obtain ⟨a, ha⟩ : ∃ a, fr.tmod (g.travel + 1) = a := ⟨_, rfl⟩
      rw [ha] at HA HT1 wr hA
      obtain ⟨M, hM⟩ : ∃ M, (g.travel - a + g.gravity - 1) / g.gravity = M := ⟨_, rfl⟩
      have hM0 : 0 ≤ M := by rw [← hM]; exact Int.ediv_nonneg (by omega) (by omega)
      have hM1 : M ≤ 5100 := by
        have := Int.ediv_le_self (b := g.gravity) (show 0 ≤ g.travel - a + g.gravity - 1 by omega)
        omega
      have y1 : IntKind.i64.wrap (g.travel - a) = g.travel - a := IntWalk.i64_in _ (by omega)
      have y2 : IntKind.i64.wrap (g.travel - a + g.gravity) = g.travel - a + g.gravity := IntWalk.i64_in _ (by omega)
      have y3 : IntKind.i64.wrap (g.travel - a + g.gravity - 1) = g.travel - a + g.gravity - 1 := IntWalk.i64_in _ (by omega)
      have y4 : (g.travel - a + g.gravity - 1).tdiv g.gravity = M := by rw [Int.tdiv_eq_ediv_of_nonneg (by omega)]; exact hM
      have y5 : IntKind.i64.wrap M = M := IntWalk.i64_in _ (by omega)
      have n2 : ¬ g.gravity = 0 := by omega
      have HTm := hid (fun W (hW : GtOk W p g) pw => time_any g p ⟨a, 0, false⟩ o i pw W hW)
      have HT2 := hid (fun pw => (HT1.out pw).trans (by rw [hM]) : ∀ pw, timeP g ⟨a, 0, false⟩ o i pw = if 2000 < M then (0, 9) else (M, 0))
      simp only [HT2.out] at HTm
      clear HS HT HT1 HT2 hA hM
      by_cases hm : 2000 < M
      · simp only [if_pos hm] at HTm
        have qm : decide (2000 < M) = true := by simp [hm]
        clear hm
        go_wp2_with (refine wpList_load_mid rfl 33 _ rfl _ 0 rfl (gtL g p) _ ((H1.out.later ((Below.refl _ _).alloc (Nat.le_refl _) _)).rows) Try.underlying33 rfl (by kernel_rfl) ?_)
        refine (HTm.out _ (HOk.out.later (H1.out.later ((Below.refl _ _).alloc (Nat.le_refl _) _)).below (Nat.le_refl _)) false).mono ?_
        rintro e w2 ⟨rfl, hb2⟩
        have b12 := bthen ((Below.refl w1.heap.size w1).alloc (Nat.le_refl _) _) hb2
        have H2 := hid (H1.out.later b12)
        clear x0 x1 x2 k1 k2 R1 hb2
        have x0 := range_cell H2.out.cs (show [_, _, _][0]? = some (.int .i64 o) from rfl)
        have x1 := range_cell H2.out.cs (show [_, _, _][1]? = some (.int .i64 i) from rfl)
        have x2 := range_cell H2.out.cs (show [_, _, _][2]? = some (.bool pw) from rfl)
        have k1 := range_cell H2.out.rows (show (gtL g p)[14]? = some (.int .i64 g.gravity) from rfl)
        have k2 := range_cell H2.out.rows (show (gtL g p)[2]? = some (.int .i64 g.travel) from rfl)
        have l2b := H2.out.lt
        have l2a : w.heap.size < w2.heap.size := by omega
        clear x0 x1 x2
        go_wp2_with fail
        refine (awake_any _).mono ?_
        rintro e w9 ⟨rfl, hb9⟩
        go_wp2_with fail
        go_ret
        exact ⟨rfl, bthen H2.out.below hb9⟩
      · simp only [if_neg hm] at HTm
        have qm : decide (2000 < M) = false := by simp [hm]
        clear hm
        go_wp2_with (refine wpList_load_mid rfl 33 _ rfl _ 0 rfl (gtL g p) _ ((H1.out.later ((Below.refl _ _).alloc (Nat.le_refl _) _)).rows) Try.underlying33 rfl (by kernel_rfl) ?_)
        refine (HTm.out _ (HOk.out.later (H1.out.later ((Below.refl _ _).alloc (Nat.le_refl _) _)).below (Nat.le_refl _)) false).mono ?_
        rintro e w2 ⟨rfl, hb2⟩
        have b12 := bthen ((Below.refl w1.heap.size w1).alloc (Nat.le_refl _) _) hb2
        have H2 := hid (H1.out.later b12)
        clear x0 x1 x2 k1 k2 R1 hb2
        have x0 := range_cell H2.out.cs (show [_, _, _][0]? = some (.int .i64 o) from rfl)
        have x1 := range_cell H2.out.cs (show [_, _, _][1]? = some (.int .i64 i) from rfl)
        have x2 := range_cell H2.out.cs (show [_, _, _][2]? = some (.bool pw) from rfl)
        have k1 := range_cell H2.out.rows (show (gtL g p)[14]? = some (.int .i64 g.gravity) from rfl)
        have k2 := range_cell H2.out.rows (show (gtL g p)[2]? = some (.int .i64 g.travel) from rfl)
        have l2b := H2.out.lt
        have l2a : w.heap.size < w2.heap.size := by omega
        have R2 := H2.out.rows
        go_wp2_with (refine wpList_load_mid rfl 33 _ rfl _ 0 rfl (gtL g p) _ (R2) Try.underlying33 rfl (by kernel_rfl) ?_)
        refine (HTm.out _ (HOk.out.later H2.out.below (Nat.le_refl _)) true).mono ?_
        rintro e w3 ⟨rfl, hb3⟩
        have H3 := hid (H2.out.later hb3)
        clear x0 x1 x2 R2 H2 k1 k2 hb3
        go_wp2_with fail
        refine (awake_any _).mono ?_
        rintro e w9 ⟨rfl, hb9⟩
        go_wp2_with fail
        go_ret
        exact ⟨rfl, bthen H3.out.below hb9⟩
end Go.Proofs.Ytpgggffcpcjahaa
