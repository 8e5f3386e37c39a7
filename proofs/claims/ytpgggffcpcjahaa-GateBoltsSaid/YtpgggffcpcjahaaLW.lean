/- Gate, part LW: the walk of GateWhere. -/
import Derived.Test.YtpgggffcpcjahaaYF
import Derived.Deep.Cut
set_option linter.all false
namespace Go.Proofs.Ytpgggffcpcjahaa
open Go.RowKit

theorem wpList_load_midG {P : Program} {ops : Array Oper} {rest : List Oper} {op : Oper} {a : Act} {w : World} {Q : Exit → Act → World → Prop} (hw : Region.wanted op (yielded ops a.tmps) = true) (ty : TypeId) (x : Operand) (ho : op.op = .load ty x)
    (b o : Nat) (hx : a.eval x = .pointer (some ⟨b, o, none⟩)) (cs : List Value) (d : TypeDesc) (hc : w.rangeAt b o cs)
    (hu : P.underlying ty = some d) (hd : d.isRow = true) (hi : (P.info? ty).map (·.size) = some cs.length)
    (h : wpList P ops Q rest (a.put op.dst (.agg cs.toArray)) w) : wpList P ops Q (op :: rest) a w :=
  wpList_step fun K hK => by rw [if_pos hw]; exact wp_load_mid ty x ho b o hx cs d hc hu hd hi (hK _ _ h)
theorem where_cases (g : Gt) (rs : List Int) : (gtE g ≠ 0 ∧ whereP g rs = ((0, 0), gtE g)) ∨ (gtE g = 0 ∧ rs.length ≠ g.ss.length ∧ whereP g rs = ((0, 0), 2)) ∨
    (gtE g = 0 ∧ rs.length = g.ss.length ∧ ((whereP g rs = ((0, 0), 9) ∧ ∀ x, 0 ≤ x → x ≤ g.travel → enB g rs x = false) ∨
      ((whereP g rs).2 = 0 ∧ (0 ≤ (whereP g rs).1.1 ∧ (whereP g rs).1.1 ≤ g.travel ∧ enB g rs (whereP g rs).1.1 = true) ∧ (0 ≤ (whereP g rs).1.2 ∧ (whereP g rs).1.2 ≤ g.travel ∧ enB g rs (whereP g rs).1.2 = true) ∧ ∀ x, 0 ≤ x → x ≤ g.travel → enB g rs x = true → (whereP g rs).1.1 ≤ x ∧ x ≤ (whereP g rs).1.2))) := by
  unfold whereP
  by_cases h0 : gtE g = 0
  · right
    rw [if_neg (by simp [h0])]
    by_cases hl : rs.length = g.ss.length
    · right
      refine ⟨h0, hl, ?_⟩
      rw [if_neg (by simp [hl])]
      have ht := (gtGood h0).travel
      have hN : ((g.travel + 1).toNat : Int) = g.travel + 1 := Int.toNat_of_nonneg (by omega)
      have hm := fun x => posL_mem (g := g) (rs := rs) (x := x) (k := (g.travel + 1).toNat)
      rcases lohi_pos g rs (g.travel + 1).toNat with ⟨h1, h2, h3⟩ | ⟨h1, h2, h3⟩
      · left
        rw [if_pos h1]
        refine ⟨rfl, fun x hx0 hx1 => ?_⟩
        cases he : enB g rs x
        · rfl
        · have := (hm x).2 ⟨hx0, by omega, he⟩
          rw [h3] at this; simp at this
      · right
        have a1 := (hm _).1 h1
        have a2 := (hm _).1 h2
        rw [if_neg (by omega)]
        refine ⟨rfl, ⟨a1.1, by have := a1.2.1; simp only; omega, a1.2.2⟩, ⟨a2.1, by have := a2.2.1; simp only; omega, a2.2.2⟩, fun x hx0 hx1 he => h3 x ((hm x).2 ⟨hx0, by omega, he⟩)⟩
    · left
      exact ⟨h0, hl, by rw [if_pos hl]⟩
  · left
    exact ⟨h0, by rw [if_pos h0]⟩
theorem gtP_e (g : Gt) : (gtP g).2.2 = gtE g := rfl
set_option maxRecDepth 100000 in
set_option maxHeartbeats 8000000 in
theorem lawWhere_any (g : Gt) (p : GtP) (x : Int) (ra : Option Addr) (rs : List Int) (mc : Nat) (w : World) (hm8 : rs.length ≤ 140737488355328) (hok : GtOk w p g) (hra : IntsAt w ra rs) :
    Calls Try.prog 9 #[.agg (gtL g p).toArray, .int .i64 x, .slice ra rs.length mc] w fun e w' => e = .returned (.bool true) ∧ Below w.heap.size w w' := by
  have HW := hid (fun W (hW : GtOk W p g) (hr : IntsAt W ra rs) => where_any g p ra rs mc rs.length W rfl hm8 hW hr)
  have HCk := hid (fun W (hW : GtOk W p g) => check_any g p W hW)
  have HEn := hid (fun (hg : GtGood g) (hl : rs.length = g.ss.length) (y : Int) (hy : 0 ≤ y ∧ y ≤ g.travel) W (h1 : SensAt W p.sa g.ss) (h2 : IntsAt W ra rs) => enough_any g p ra rs mc y W hg h1 h2 hl hy)
  have HCs := hid (where_cases g rs)
  have HOk := hid hok; have HRa := hid hra; have HPe := hid (gtP_e g)
  have hA : Below w.heap.size w (w.alloc (.cells (gtL g p).toArray 33)) := (Below.refl _ _).alloc (Nat.le_refl _) _
  have R1 := range_alloc w (gtL g p) 33
  have S1 : w.heap.size < (w.alloc (.cells (gtL g p).toArray 33)).heap.size := by simp
  clear hok hra
  generalize whereP g rs = q at *
  obtain ⟨⟨lo, hi⟩, e⟩ := q
  generalize gtP g = c at *
  obtain ⟨c1, c2, c3⟩ := c
  dsimp only at HW HCk HPe HCs
  go_enter Try.func9, Try.ntmps9
  go_wp2_with (refine wpList_load_mid rfl 33 _ rfl _ 0 rfl (gtL g p) _ (R1) Try.underlying33 rfl (by kernel_rfl) ?_)
  refine (HW.out _ (HOk.out.later hA (Nat.le_refl _)) (HRa.out.later hA (Nat.le_refl _))).mono ?_
  rintro e w1 ⟨rfl, hb⟩
  have R2 := range_later R1 hb S1
  have B2 := bthen hA hb
  have S2 := lthen S1 hb
  clear R1 hA S1 hb
  go_wp2_with (refine wpList_load_mid rfl 33 _ rfl _ 0 rfl (gtL g p) _ (range_later R2 ((Below.refl _ _).alloc (Nat.le_refl _) _) S2) Try.underlying33 rfl (by kernel_rfl) ?_)
  refine (HCk.out _ (HOk.out.later (B2.alloc (by omega) _) (Nat.le_refl _))).mono ?_
  rintro e w2 ⟨rfl, hb⟩
  obtain ⟨ru, l2, b12⟩ := one_box (cs := [.int .i64 lo, .int .i64 hi]) hb
  have R3 := range_later R2 b12 S2
  have B3 := bthen B2 b12
  have S3 := lthen S2 b12
  clear R2 B2 hb b12
  have k19 := range_cell R3 (show (gtL g p)[19]? = some (.slice p.sa g.ss.length p.sc) from rfl)
  have k2 := range_cell R3 (show (gtL g p)[2]? = some (.int .i64 g.travel) from rfl)
  have u0 := range_cell ru (show [_, _][0]? = some (.int .i64 lo) from rfl)
  have u1 := range_cell ru (show [_, _][1]? = some (.int .i64 hi) from rfl)
  clear ru
  rcases HCs.out with ⟨h1, h2⟩ | ⟨h1, h2, h3⟩ | ⟨h1, h2, h3⟩
  · injection h2 with h2 h4
    have d1 : (c3 != 0) = true := by rw [HPe.out]; simp [h1]
    have d2 : (e != 0) = true := by rw [h4]; simp [h1]
    clear h1 h2 h4 HCs
    go_wp2_with fail
    refine (awake_any _).mono ?_
    rintro e w9 ⟨rfl, hb9⟩
    go_wp2_with fail
    go_ret
    exact ⟨rfl, bthen B3 hb9⟩
  · injection h3 with h3 h4
    have d1 : (c3 != 0) = false := by rw [HPe.out]; simp [h1]
    have d2 : (e != 0) = true := by rw [h4]; simp
    have d3 : ((rs.length : Int) != (g.ss.length : Int)) = true := by simp; omega
    clear h1 h2 h3 h4 HCs
    go_wp2_with fail
    refine (awake_any _).mono ?_
    rintro e w9 ⟨rfl, hb9⟩
    go_wp2_with fail
    go_ret
    exact ⟨rfl, bthen B3 hb9⟩
  · have d1 : (c3 != 0) = false := by rw [HPe.out]; simp [h1]
    have d3 : ((rs.length : Int) != (g.ss.length : Int)) = false := by simp [h2]
    have HG := hid (gtGood h1)
    have HL := hid h2
    have H3 := hid h3
    clear h1 h2 h3 HCs

    by_cases p1 : 0 ≤ x
    · have e1 : decide (0 ≤ x) = true := by simp [p1]
      by_cases p2 : x ≤ g.travel
      · have e2 : decide (x ≤ g.travel) = true := by simp [p2]
        have HEx := hid (fun W h1 h2 => HEn.out HG.out HL.out x ⟨p1, p2⟩ W h1 h2)
        rcases H3.out with ⟨he, hno⟩ | ⟨he, ⟨l0, l1, le⟩, ⟨h0, h1, he1⟩, hall⟩
        · rw [hno x p1 p2] at HEx
          injection he with he1 he2
          have q1 : (e != 0) = true := by simp [he2]
          have q2 : (e == 9) = true := by simp [he2]
          clear he1 he2 hno p1 p2 H3
          go_wp2_with (go_big_want; refine wp_load_mid 33 _ rfl _ 0 rfl (gtL g p) _ (R3) Try.underlying33 rfl (by kernel_rfl) ?_)
          refine (HEx.out _ (HOk.out.later B3 (Nat.le_refl _)).ss (HRa.out.later B3 (Nat.le_refl _))).mono ?_
          rintro e w4 ⟨rfl, hb⟩
          have R4 := range_later R3 hb S3
          have B4 := bthen B3 hb
          have z0 := (hb.cell (p := ⟨w1.heap.size, 0, none⟩) l2).trans u0
          have z1 := (hb.cell (p := ⟨w1.heap.size, 1, none⟩) l2).trans u1
          have S4 := lthen S3 hb
          have l3 := lthen l2 hb
          clear u0 u1 l2 hb k2
          have u0 := z0
          have u1 := z1
          have l2 := l3
          clear z0 z1 l3
          have k2 := range_cell R4 (show (gtL g p)[2]? = some (.int .i64 g.travel) from rfl)
          go_wp2_with fail
          refine (awake_any _).mono ?_
          rintro e w9 ⟨rfl, hb9⟩
          go_wp2_with fail
          go_ret
          exact ⟨rfl, bthen B4 hb9⟩
        · obtain ⟨v, hv⟩ : ∃ v, enB g rs x = v := ⟨_, rfl⟩
          rw [hv] at HEx
          have q1 : (e != 0) = false := by simp [he]
          have g1 : decide (0 ≤ lo) = true := by simp [l0]
          have g2 : decide (hi ≤ g.travel) = true := by simp [h1]
          have HElo := hid (fun W h1 h2 => HEn.out HG.out HL.out lo ⟨l0, l1⟩ W h1 h2)
          have HEhi := hid (fun W h1' h2 => HEn.out HG.out HL.out hi ⟨h0, h1⟩ W h1' h2)
          rw [le] at HElo
          rw [he1] at HEhi
          cases v
          · clear he l0 l1 le h0 h1 he1 hall p1 p2 H3 hv
            go_wp2_with (go_big_want; refine wp_load_mid 33 _ rfl _ 0 rfl (gtL g p) _ (R3) Try.underlying33 rfl (by kernel_rfl) ?_)
            refine (HEx.out _ (HOk.out.later B3 (Nat.le_refl _)).ss (HRa.out.later B3 (Nat.le_refl _))).mono ?_
            rintro e w4 ⟨rfl, hb⟩
            have R4 := range_later R3 hb S3
            have B4 := bthen B3 hb
            have z0 := (hb.cell (p := ⟨w1.heap.size, 0, none⟩) l2).trans u0
            have z1 := (hb.cell (p := ⟨w1.heap.size, 1, none⟩) l2).trans u1
            have S4 := lthen S3 hb
            have l3 := lthen l2 hb
            clear u0 u1 l2 hb k2
            have u0 := z0
            have u1 := z1
            have l2 := l3
            clear z0 z1 l3
            have k2 := range_cell R4 (show (gtL g p)[2]? = some (.int .i64 g.travel) from rfl)
            go_wp2_with (go_big_want; refine wp_load_mid 33 _ rfl _ 0 rfl (gtL g p) _ (R4) Try.underlying33 rfl (by kernel_rfl) ?_)
            refine (HElo.out _ (HOk.out.later B4 (Nat.le_refl _)).ss (HRa.out.later B4 (Nat.le_refl _))).mono ?_
            rintro e w5 ⟨rfl, hb⟩
            have R5 := range_later R4 hb S4
            have B5 := bthen B4 hb
            have z0 := (hb.cell (p := ⟨w1.heap.size, 0, none⟩) l2).trans u0
            have z1 := (hb.cell (p := ⟨w1.heap.size, 1, none⟩) l2).trans u1
            have S5 := lthen S4 hb
            have l3 := lthen l2 hb
            clear u0 u1 l2 hb k2
            have u0 := z0
            have u1 := z1
            have l2 := l3
            clear z0 z1 l3
            have k2 := range_cell R5 (show (gtL g p)[2]? = some (.int .i64 g.travel) from rfl)
            go_wp2_with (go_big_want; refine wp_load_mid 33 _ rfl _ 0 rfl (gtL g p) _ (R5) Try.underlying33 rfl (by kernel_rfl) ?_)
            refine (HEhi.out _ (HOk.out.later B5 (Nat.le_refl _)).ss (HRa.out.later B5 (Nat.le_refl _))).mono ?_
            rintro e w6 ⟨rfl, hb⟩
            have R6 := range_later R5 hb S5
            have B6 := bthen B5 hb
            have z0 := (hb.cell (p := ⟨w1.heap.size, 0, none⟩) l2).trans u0
            have z1 := (hb.cell (p := ⟨w1.heap.size, 1, none⟩) l2).trans u1
            have S6 := lthen S5 hb
            have l3 := lthen l2 hb
            clear u0 u1 l2 hb k2
            have u0 := z0
            have u1 := z1
            have l2 := l3
            clear z0 z1 l3
            have k2 := range_cell R6 (show (gtL g p)[2]? = some (.int .i64 g.travel) from rfl)
            go_wp2_with fail
            refine (awake_any _).mono ?_
            rintro e w9 ⟨rfl, hb9⟩
            go_wp2_with fail
            go_ret
            exact ⟨rfl, bthen B6 hb9⟩
          · obtain ⟨a1, a2⟩ := hall x p1 p2 hv
            have f1 : decide (lo ≤ x) = true := by simp [a1]
            have f2 : decide (x ≤ hi) = true := by simp [a2]
            clear he l0 l1 le h0 h1 he1 hall p1 p2 H3 hv a1 a2
            go_wp2_with (go_big_want; refine wp_load_mid 33 _ rfl _ 0 rfl (gtL g p) _ (R3) Try.underlying33 rfl (by kernel_rfl) ?_)
            refine (HEx.out _ (HOk.out.later B3 (Nat.le_refl _)).ss (HRa.out.later B3 (Nat.le_refl _))).mono ?_
            rintro e w4 ⟨rfl, hb⟩
            have R4 := range_later R3 hb S3
            have B4 := bthen B3 hb
            have z0 := (hb.cell (p := ⟨w1.heap.size, 0, none⟩) l2).trans u0
            have z1 := (hb.cell (p := ⟨w1.heap.size, 1, none⟩) l2).trans u1
            have S4 := lthen S3 hb
            have l3 := lthen l2 hb
            clear u0 u1 l2 hb k2
            have u0 := z0
            have u1 := z1
            have l2 := l3
            clear z0 z1 l3
            have k2 := range_cell R4 (show (gtL g p)[2]? = some (.int .i64 g.travel) from rfl)
            go_wp2_with (go_big_want; refine wp_load_mid 33 _ rfl _ 0 rfl (gtL g p) _ (R4) Try.underlying33 rfl (by kernel_rfl) ?_)
            refine (HElo.out _ (HOk.out.later B4 (Nat.le_refl _)).ss (HRa.out.later B4 (Nat.le_refl _))).mono ?_
            rintro e w5 ⟨rfl, hb⟩
            have R5 := range_later R4 hb S4
            have B5 := bthen B4 hb
            have z0 := (hb.cell (p := ⟨w1.heap.size, 0, none⟩) l2).trans u0
            have z1 := (hb.cell (p := ⟨w1.heap.size, 1, none⟩) l2).trans u1
            have S5 := lthen S4 hb
            have l3 := lthen l2 hb
            clear u0 u1 l2 hb k2
            have u0 := z0
            have u1 := z1
            have l2 := l3
            clear z0 z1 l3
            have k2 := range_cell R5 (show (gtL g p)[2]? = some (.int .i64 g.travel) from rfl)
            go_wp2_with (go_big_want; refine wp_load_mid 33 _ rfl _ 0 rfl (gtL g p) _ (R5) Try.underlying33 rfl (by kernel_rfl) ?_)
            refine (HEhi.out _ (HOk.out.later B5 (Nat.le_refl _)).ss (HRa.out.later B5 (Nat.le_refl _))).mono ?_
            rintro e w6 ⟨rfl, hb⟩
            have R6 := range_later R5 hb S5
            have B6 := bthen B5 hb
            have z0 := (hb.cell (p := ⟨w1.heap.size, 0, none⟩) l2).trans u0
            have z1 := (hb.cell (p := ⟨w1.heap.size, 1, none⟩) l2).trans u1
            have S6 := lthen S5 hb
            have l3 := lthen l2 hb
            clear u0 u1 l2 hb k2
            have u0 := z0
            have u1 := z1
            have l2 := l3
            clear z0 z1 l3
            have k2 := range_cell R6 (show (gtL g p)[2]? = some (.int .i64 g.travel) from rfl)
            go_wp2_with fail
            refine (awake_any _).mono ?_
            rintro e w9 ⟨rfl, hb9⟩
            go_wp2_with fail
            go_ret
            exact ⟨rfl, bthen B6 hb9⟩
      · have e2 : decide (x ≤ g.travel) = false := by simp; omega
        rcases H3.out with ⟨he, hno⟩ | ⟨he, ⟨l0, l1, le⟩, ⟨h0, h1, he1⟩, hall⟩
        · clear hno
          injection he with he1 he2
          have q1 : (e != 0) = true := by simp [he2]
          have q2 : (e == 9) = true := by simp [he2]
          clear he1 he2 p1 p2 H3
          go_wp2_with fail
          refine (awake_any _).mono ?_
          rintro e w9 ⟨rfl, hb9⟩
          go_wp2_with fail
          go_ret
          exact ⟨rfl, bthen B3 hb9⟩
        · clear hall
          have q1 : (e != 0) = false := by simp [he]
          have g1 : decide (0 ≤ lo) = true := by simp [l0]
          have g2 : decide (hi ≤ g.travel) = true := by simp [h1]
          have HElo := hid (fun W h1 h2 => HEn.out HG.out HL.out lo ⟨l0, l1⟩ W h1 h2)
          have HEhi := hid (fun W h1' h2 => HEn.out HG.out HL.out hi ⟨h0, h1⟩ W h1' h2)
          rw [le] at HElo
          rw [he1] at HEhi
          clear he l0 l1 le h0 h1 he1 p1 p2 H3
          go_wp2_with (go_big_want; refine wp_load_mid 33 _ rfl _ 0 rfl (gtL g p) _ (R3) Try.underlying33 rfl (by kernel_rfl) ?_)
          refine (HElo.out _ (HOk.out.later B3 (Nat.le_refl _)).ss (HRa.out.later B3 (Nat.le_refl _))).mono ?_
          rintro e w4 ⟨rfl, hb⟩
          have R4 := range_later R3 hb S3
          have B4 := bthen B3 hb
          have z0 := (hb.cell (p := ⟨w1.heap.size, 0, none⟩) l2).trans u0
          have z1 := (hb.cell (p := ⟨w1.heap.size, 1, none⟩) l2).trans u1
          have S4 := lthen S3 hb
          have l3 := lthen l2 hb
          clear u0 u1 l2 hb k2
          have u0 := z0
          have u1 := z1
          have l2 := l3
          clear z0 z1 l3
          have k2 := range_cell R4 (show (gtL g p)[2]? = some (.int .i64 g.travel) from rfl)
          go_wp2_with (go_big_want; refine wp_load_mid 33 _ rfl _ 0 rfl (gtL g p) _ (R4) Try.underlying33 rfl (by kernel_rfl) ?_)
          refine (HEhi.out _ (HOk.out.later B4 (Nat.le_refl _)).ss (HRa.out.later B4 (Nat.le_refl _))).mono ?_
          rintro e w5 ⟨rfl, hb⟩
          have R5 := range_later R4 hb S4
          have B5 := bthen B4 hb
          have z0 := (hb.cell (p := ⟨w1.heap.size, 0, none⟩) l2).trans u0
          have z1 := (hb.cell (p := ⟨w1.heap.size, 1, none⟩) l2).trans u1
          have S5 := lthen S4 hb
          have l3 := lthen l2 hb
          clear u0 u1 l2 hb k2
          have u0 := z0
          have u1 := z1
          have l2 := l3
          clear z0 z1 l3
          have k2 := range_cell R5 (show (gtL g p)[2]? = some (.int .i64 g.travel) from rfl)
          go_wp2_with fail
          refine (awake_any _).mono ?_
          rintro e w9 ⟨rfl, hb9⟩
          go_wp2_with fail
          go_ret
          exact ⟨rfl, bthen B5 hb9⟩
    · have e1 : decide (0 ≤ x) = false := by simp; omega
      rcases H3.out with ⟨he, hno⟩ | ⟨he, ⟨l0, l1, le⟩, ⟨h0, h1, he1⟩, hall⟩
      · clear hno
        injection he with he1 he2
        have q1 : (e != 0) = true := by simp [he2]
        have q2 : (e == 9) = true := by simp [he2]
        clear he1 he2 p1 H3
        go_wp2_with fail
        refine (awake_any _).mono ?_
        rintro e w9 ⟨rfl, hb9⟩
        go_wp2_with fail
        go_ret
        exact ⟨rfl, bthen B3 hb9⟩
      · clear hall
        have q1 : (e != 0) = false := by simp [he]
        have g1 : decide (0 ≤ lo) = true := by simp [l0]
        have g2 : decide (hi ≤ g.travel) = true := by simp [h1]
        have HElo := hid (fun W h1 h2 => HEn.out HG.out HL.out lo ⟨l0, l1⟩ W h1 h2)
        have HEhi := hid (fun W h1' h2 => HEn.out HG.out HL.out hi ⟨h0, h1⟩ W h1' h2)
        rw [le] at HElo
        rw [he1] at HEhi
        clear he l0 l1 le h0 h1 he1 p1 H3
        go_wp2_with (go_big_want; refine wp_load_mid 33 _ rfl _ 0 rfl (gtL g p) _ (R3) Try.underlying33 rfl (by kernel_rfl) ?_)
        refine (HElo.out _ (HOk.out.later B3 (Nat.le_refl _)).ss (HRa.out.later B3 (Nat.le_refl _))).mono ?_
        rintro e w4 ⟨rfl, hb⟩
        have R4 := range_later R3 hb S3
        have B4 := bthen B3 hb
        have z0 := (hb.cell (p := ⟨w1.heap.size, 0, none⟩) l2).trans u0
        have z1 := (hb.cell (p := ⟨w1.heap.size, 1, none⟩) l2).trans u1
        have S4 := lthen S3 hb
        have l3 := lthen l2 hb
        clear u0 u1 l2 hb k2
        have u0 := z0
        have u1 := z1
        have l2 := l3
        clear z0 z1 l3
        have k2 := range_cell R4 (show (gtL g p)[2]? = some (.int .i64 g.travel) from rfl)
        go_wp2_with (go_big_want; refine wp_load_mid 33 _ rfl _ 0 rfl (gtL g p) _ (R4) Try.underlying33 rfl (by kernel_rfl) ?_)
        refine (HEhi.out _ (HOk.out.later B4 (Nat.le_refl _)).ss (HRa.out.later B4 (Nat.le_refl _))).mono ?_
        rintro e w5 ⟨rfl, hb⟩
        have R5 := range_later R4 hb S4
        have B5 := bthen B4 hb
        have z0 := (hb.cell (p := ⟨w1.heap.size, 0, none⟩) l2).trans u0
        have z1 := (hb.cell (p := ⟨w1.heap.size, 1, none⟩) l2).trans u1
        have S5 := lthen S4 hb
        have l3 := lthen l2 hb
        clear u0 u1 l2 hb k2
        have u0 := z0
        have u1 := z1
        have l2 := l3
        clear z0 z1 l3
        have k2 := range_cell R5 (show (gtL g p)[2]? = some (.int .i64 g.travel) from rfl)
        go_wp2_with fail
        refine (awake_any _).mono ?_
        rintro e w9 ⟨rfl, hb9⟩
        go_wp2_with fail
        go_ret
        exact ⟨rfl, bthen B5 hb9⟩
end Go.Proofs.Ytpgggffcpcjahaa
