/- Gate, part YG: Sure, Bolt. -/
import Derived.Test.YtpgggffcpcjahaaYE
import Derived.Deep.Cut
set_option linter.all false
namespace Go.Proofs.Ytpgggffcpcjahaa
open Go.RowKit

def sureP (g : Gt) (rs : List Int) : Int × Int := if (whereP g rs).2 ≠ 0 then (0, (whereP g rs).2) else if (whereP g rs).1.2 ≤ g.slack then (1, 0) else if g.travel - g.slack ≤ (whereP g rs).1.1 then (2, 0) else (0, 0)
def boltE (g : Gt) (s : St) (on : Bool) (rs : List Int) : Int := if on = false ∧ s.bolted = false then 4 else if on = false then 0 else if s.bolted = true then 5 else if (sureP g rs).2 = 0 ∧ (sureP g rs).1 = 0 then 9 else (sureP g rs).2
def boltEE (g : Gt) (s : St) (on : Bool) (rs : List Int) : Int := (firstAt 0 [(0, gtE g), (0, stE g s), (0, boltE g s on rs)]).2.2
/-- What Bolt returns. -/
def boltP (g : Gt) (s : St) (on : Bool) (rs : List Int) : St × Int := if boltEE g s on rs ≠ 0 then (⟨0, 0, false⟩, boltEE g s on rs) else (⟨s.pos, s.charge, on⟩, 0)
theorem where_good {g : Gt} {rs : List Int} (h : (whereP g rs).2 = 0) : gtE g = 0 := by
  unfold whereP at h
  by_cases h0 : gtE g = 0
  · exact h0
  · rw [if_pos h0] at h; exact h
set_option maxRecDepth 100000 in
set_option maxHeartbeats 2000000 in
theorem sure_any (g : Gt) (p : GtP) (ra : Option Addr) (rs : List Int) (mc m : Nat) (w : World) (hm : rs.length = m) (hm8 : m ≤ 140737488355328) (hok : GtOk w p g) (hra : IntsAt w ra rs) :
    Calls Try.prog 28 #[.agg (gtL g p).toArray, .slice ra m mc] w fun e w' => e = .returned (.tuple #[.int .i64 (sureP g rs).1, .int .i64 (sureP g rs).2]) ∧ Below w.heap.size w w' := by
  have HE := hid (show sureP g rs = if (whereP g rs).2 ≠ 0 then (0, (whereP g rs).2) else if (whereP g rs).1.2 ≤ g.slack then (1, 0) else if g.travel - g.slack ≤ (whereP g rs).1.1 then (2, 0) else (0, 0) from rfl)
  have hA : Below w.heap.size w (w.alloc (.cells (gtL g p).toArray 33)) := (Below.refl _ _).alloc (Nat.le_refl _) _
  have R1 := range_alloc w (gtL g p) 33
  have S1 : w.heap.size < (w.alloc (.cells (gtL g p).toArray 33)).heap.size := by simp
  have HW := hid (where_any g p ra rs mc m _ hm hm8 (hok.later hA (Nat.le_refl _)) (hra.later hA (Nat.le_refl _)))
  have HGd := hid (fun h => gtGood (where_good (g := g) (rs := rs) h))
  clear hok hra hm hm8
  generalize sureP g rs = y at *
  generalize whereP g rs = q at *
  obtain ⟨⟨lo, hi⟩, e⟩ := q
  dsimp only at HE HW HGd
  go_enter Try.func28, Try.ntmps28
  go_wp2_with (refine wpList_load_mid rfl 33 _ rfl _ 0 rfl (gtL g p) _ (R1) Try.underlying33 rfl (by kernel_rfl) ?_)
  refine (HW.out).mono ?_
  rintro e' w1 ⟨rfl, hb⟩
  have R2 := range_later R1 hb S1
  have B2 := bthenY hA hb
  have k2 := range_cell R2 (show (gtL g p)[2]? = some (.int .i64 g.travel) from rfl)
  have k18 := range_cell R2 (show (gtL g p)[18]? = some (.int .i64 g.slack) from rfl)
  have l1 := Nat.lt_of_lt_of_le S1 hb.size
  clear R1 hA S1 hb HW R2
  by_cases he : e = 0
  · have q1 : (e != 0) = false := by simp [he]
    have hg := HGd.out he
    have b1 := hg.travel; have b2 := hg.slack
    have v1 : IntKind.i64.wrap (g.travel - g.slack) = g.travel - g.slack := IntWalk.i64_in _ (by have := Int.tdiv_le_self (a := g.travel - 1) 2 (by omega); omega)
    by_cases h1 : hi ≤ g.slack
    · have d1 : decide (hi ≤ g.slack) = true := by simp [h1]
      have HR := hid (HE.out.trans ((if_neg (by simp [he])).trans (if_pos h1)))
      clear he h1 b1 b2 hg HE HGd
      go_wp2_with fail
      go_ret2
      exact ⟨ret_two (by rw [HR.out]) (by rw [HR.out]), B2.alloc (by omega) _⟩
    · have d1 : decide (hi ≤ g.slack) = false := by simp; omega
      by_cases h2 : g.travel - g.slack ≤ lo
      · have d2 : decide (g.travel - g.slack ≤ lo) = true := by simp [h2]
        have HR := hid (HE.out.trans ((if_neg (by simp [he])).trans ((if_neg h1).trans (if_pos h2))))
        clear he h1 h2 b1 b2 hg HE HGd
        go_wp2_with fail
        go_ret2
        exact ⟨ret_two (by rw [HR.out]) (by rw [HR.out]), B2.alloc (by omega) _⟩
      · have d2 : decide (g.travel - g.slack ≤ lo) = false := by simp; omega
        have HR := hid (HE.out.trans ((if_neg (by simp [he])).trans ((if_neg h1).trans (if_neg h2))))
        clear he h1 h2 b1 b2 hg HE HGd
        go_wp2_with fail
        go_ret2
        exact ⟨ret_two (by rw [HR.out]) (by rw [HR.out]), B2.alloc (by omega) _⟩
  · have q1 : (e != 0) = true := by simp [he]
    have HR := hid (HE.out.trans (if_pos he))
    clear he HE HGd
    go_wp2_with fail
    go_ret2
    exact ⟨ret_two (by rw [HR.out]) (by rw [HR.out]), B2.alloc (by omega) _⟩
set_option maxRecDepth 100000 in
set_option maxHeartbeats 2000000 in
theorem boltError_any (g : Gt) (p : GtP) (s : St) (on : Bool) (ra : Option Addr) (rs : List Int) (mc m : Nat) (w : World) (hm : rs.length = m) (hm8 : m ≤ 140737488355328) (hok : GtOk w p g) (hra : IntsAt w ra rs) :
    Calls Try.prog 77 #[.agg (gtL g p).toArray, .agg #[.int .i64 s.pos, .int .i64 s.charge, .bool s.bolted], .bool on, .slice ra m mc] w fun e w' => e = .returned (.int .i64 (boltE g s on rs)) ∧ Below w.heap.size w w' := by
  have HE := hid (show boltE g s on rs = if on = false ∧ s.bolted = false then 4 else if on = false then 0 else if s.bolted = true then 5 else if (sureP g rs).2 = 0 ∧ (sureP g rs).1 = 0 then 9 else (sureP g rs).2 from rfl)
  have H0 := TmW.start w g p s
  have HSu := hid (fun W (hW : Below w.heap.size w W) => sure_any g p ra rs mc m W hm hm8 (hok.later hW (Nat.le_refl _)) (hra.later hW (Nat.le_refl _)))
  have R1 := H0.rows
  have s2 := range_cell H0.ss (show (stL s)[2]? = some (.bool s.bolted) from rfl)
  have HB := hid H0.below
  clear hok hra hm hm8 H0
  generalize boltE g s on rs = y at *
  generalize sureP g rs = q at *
  obtain ⟨q1, q2⟩ := q
  dsimp only at HE HSu
  go_enter Try.func77, Try.ntmps77
  go_upto_region 1 with fail
  generalize World.alloc (World.alloc w _) _ = W1 at *
  cases on
  · rcases hbo : s.bolted with _ | _
    · have HR := hid (HE.out.trans (if_pos ⟨rfl, hbo⟩))
      clear HE HSu
      go_wp2_with fail
      go_ret
      exact ⟨ret_iE (by rw [HR.out]), HB.out⟩
    · have HR := hid (HE.out.trans ((if_neg (by simp [hbo])).trans (if_pos rfl)))
      clear HE HSu
      go_wp2_with fail
      go_ret
      exact ⟨ret_iE (by rw [HR.out]), HB.out⟩
  · rcases hbo : s.bolted with _ | _
    · have HR0 := hid (HE.out.trans ((if_neg (by simp)).trans ((if_neg (by simp)).trans (if_neg (by simp [hbo])))))
      clear HE
      go_wp2_with (refine wpList_load_mid rfl 33 _ rfl _ 0 rfl (gtL g p) _ (R1) Try.underlying33 rfl (by kernel_rfl) ?_)
      refine (HSu.out _ HB.out).mono ?_
      rintro e w1 ⟨rfl, hb⟩
      have BF := bthenY HB.out hb
      clear hb HSu R1 s2
      by_cases h2 : q2 = 0
      · have d2 : (q2 == 0) = true := by simp [h2]
        by_cases h1 : q1 = 0
        · have d1 : (q1 == 0) = true := by simp [h1]
          have HR := hid (HR0.out.trans (if_pos ⟨h2, h1⟩))
          clear h1 h2 HR0
          go_wp2_with fail
          go_ret
          exact ⟨ret_iE (by rw [HR.out]), BF⟩
        · have d1 : (q1 == 0) = false := by simp [h1]
          have HR := hid (HR0.out.trans (if_neg (by simp [h1])))
          clear h1 h2 HR0
          go_wp2_with fail
          go_ret
          exact ⟨ret_iE (by rw [HR.out]), BF⟩
      · have d2 : (q2 == 0) = false := by simp [h2]
        have HR := hid (HR0.out.trans (if_neg (by simp [h2])))
        clear h2 HR0
        go_wp2_with fail
        go_ret
        exact ⟨ret_iE (by rw [HR.out]), BF⟩
    · have HR := hid (HE.out.trans ((if_neg (by simp)).trans ((if_neg (by simp)).trans (if_pos hbo))))
      clear HE HSu
      go_wp2_with fail
      go_ret
      exact ⟨ret_iE (by rw [HR.out]), HB.out⟩

theorem callFunc_bolt1 (args : Array Value) (w : World) : (callFunc 73 args).run Try.prog w = .ok (.enter 73 args) w := by simp [go_sem]
theorem callFunc_bolt2 (args : Array Value) (w : World) : (callFunc 74 args).run Try.prog w = .ok (.enter 74 args) w := by simp [go_sem]
theorem callFunc_bolt3 (args : Array Value) (w : World) : (callFunc 76 args).run Try.prog w = .ok (.enter 76 args) w := by simp [go_sem]
set_option maxRecDepth 100000 in
set_option maxHeartbeats 1000000 in
theorem bolt1_any (tb : Nat) (g : Gt) (p : GtP) (w : World) (hok : GtOk w p g) (hr : w.rangeAt tb 0 (gtL g p)) :
    Calls Try.prog 73 #[.pointer (some ⟨tb, 0, none⟩)] w fun e w' => e = .returned (.tuple #[.int .i64 0, .int .i64 (gtE g)]) ∧ Below w.heap.size w w' := by
  have HOk := hid hok
  clear hok
  go_enter Try.func73, Try.ntmps73
  go_wp2_with (refine wpList_load_mid rfl 33 _ rfl _ 0 rfl (gtL g p) _ (hr) Try.underlying33 rfl (by kernel_rfl) ?_)
  refine (gateError_any g p _ HOk.out).mono ?_
  rintro e w' ⟨rfl, hb⟩
  go_wp2_with fail
  go_ret2
  exact ⟨ret_two rfl rfl, hb⟩
set_option maxRecDepth 100000 in
set_option maxHeartbeats 1000000 in
theorem bolt2_any (tb sb : Nat) (g : Gt) (p : GtP) (s : St) (w : World) (hr : w.rangeAt tb 0 (gtL g p)) (hs : w.rangeAt sb 0 (stL s)) :
    Calls Try.prog 74 #[.pointer (some ⟨tb, 0, none⟩), .pointer (some ⟨sb, 0, none⟩)] w fun e w' => e = .returned (.tuple #[.int .i64 0, .int .i64 (stE g s)]) ∧ Below w.heap.size w w' := by
  have s0 := range_cell hs (show (stL s)[0]? = some (.int .i64 s.pos) from rfl)
  have s1 := range_cell hs (show (stL s)[1]? = some (.int .i64 s.charge) from rfl)
  have s2 := range_cell hs (show (stL s)[2]? = some (.bool s.bolted) from rfl)
  go_enter Try.func74, Try.ntmps74
  go_wp2_with (refine wpList_load_mid rfl 33 _ rfl _ 0 rfl (gtL g p) _ (hr) Try.underlying33 rfl (by kernel_rfl) ?_)
  refine (stateError_any g p s _).mono ?_
  rintro e w' ⟨rfl, hb⟩
  go_wp2_with fail
  go_ret2
  exact ⟨ret_two rfl rfl, hb⟩
set_option maxRecDepth 100000 in
set_option maxHeartbeats 1000000 in
theorem bolt3_any (tb sb ob rb : Nat) (g : Gt) (p : GtP) (s : St) (on : Bool) (ra : Option Addr) (rs : List Int) (mc m : Nat) (w : World) (hm : rs.length = m) (hm8 : m ≤ 140737488355328) (hok : GtOk w p g) (hra : IntsAt w ra rs) (hr : w.rangeAt tb 0 (gtL g p)) (hs : w.rangeAt sb 0 (stL s)) (ho : w.cell? ⟨ob, 0, none⟩ = some (.bool on)) (hv : w.cell? ⟨rb, 0, none⟩ = some (.slice ra m mc)) :
    Calls Try.prog 76 #[.pointer (some ⟨tb, 0, none⟩), .pointer (some ⟨sb, 0, none⟩), .pointer (some ⟨ob, 0, none⟩), .pointer (some ⟨rb, 0, none⟩)] w fun e w' => e = .returned (.tuple #[.int .i64 0, .int .i64 (boltE g s on rs)]) ∧ Below w.heap.size w w' := by
  have s0 := range_cell hs (show (stL s)[0]? = some (.int .i64 s.pos) from rfl)
  have s1 := range_cell hs (show (stL s)[1]? = some (.int .i64 s.charge) from rfl)
  have s2 := range_cell hs (show (stL s)[2]? = some (.bool s.bolted) from rfl)
  have HB := hid (boltError_any g p s on ra rs mc m w hm hm8 hok hra)
  clear hok hra hm hm8
  go_enter Try.func76, Try.ntmps76
  go_wp2_with (refine wpList_load_mid rfl 33 _ rfl _ 0 rfl (gtL g p) _ (hr) Try.underlying33 rfl (by kernel_rfl) ?_)
  refine (HB.out).mono ?_
  rintro e w' ⟨rfl, hb⟩
  go_wp2_with fail
  go_ret2
  exact ⟨ret_two rfl rfl, hb⟩
theorem first3_any {K0 K1 K2 : FuncId} {c0 c1 c2 : Array Value} {p0 p1 p2 : Int × Int} {w1 : World} (T : TypeId) (h0 : Chk w1.heap.size w1 K0 c0 p0) (h1 : Chk w1.heap.size w1 K1 c1 p1) (h2 : Chk w1.heap.size w1 K2 c2 p2) :
    Calls Try.prog 37 #[.slice (some ⟨w1.heap.size, 0, none⟩) 3 3] (w1.alloc (.cells #[.func (.func K0) #[] c0, .func (.func K1) #[] c1, .func (.func K2) #[] c2] T))
      fun e w' => e = .returned (.tuple #[.int .i64 (firstAt 0 [p0, p1, p2]).1, .int .i64 (firstAt 0 [p0, p1, p2]).2.1, .int .i64 (firstAt 0 [p0, p1, p2]).2.2]) ∧ Below (w1.alloc (.cells #[.func (.func K0) #[] c0, .func (.func K1) #[] c1, .func (.func K2) #[] c2] T)).heap.size (w1.alloc (.cells #[.func (.func K0) #[] c0, .func (.func K1) #[] c1, .func (.func K2) #[] c2] T)) w' := by
  have ha : Below w1.heap.size w1 (w1.alloc (.cells #[.func (.func K0) #[] c0, .func (.func K1) #[] c1, .func (.func K2) #[] c2] T)) := (Below.refl _ _).alloc (Nat.le_refl _) _
  have k0 := h0.later ha
  have k1 := h1.later ha
  have k2 := h2.later ha
  refine first_any w1.heap.size (w1.alloc (.cells #[.func (.func K0) #[] c0, .func (.func K1) #[] c1, .func (.func K2) #[] c2] T)) [p0, p1, p2] w1.heap.size 0 3 (fun i => match i with | 0 => K0 | 1 => K1 | _ => K2) (fun i => match i with | 0 => c0 | 1 => c1 | _ => c2) _ (by simp) (by simp) (Below.refl _ _) (by simp) (fun i hi => ?_) (fun i hi => ?_)
  · match i, hi with
    | 0, _ => simp [go_sem]
    | 1, _ => simp [go_sem]
    | 2, _ => simp [go_sem]
  · match i, hi with
    | 0, _ => exact k0
    | 1, _ => exact k1
    | 2, _ => exact k2
theorem set3_cells {x : World} {C : Nat} {v0 v1 v2 : Value} (h0 : ∃ z, x.cell? ⟨C, 0, none⟩ = some z) (h1 : ∃ z, x.cell? ⟨C, 1, none⟩ = some z) (h2 : ∃ z, x.cell? ⟨C, 2, none⟩ = some z) :
    (((x.setCell ⟨C, 0, none⟩ v0).setCell ⟨C, 1, none⟩ v1).setCell ⟨C, 2, none⟩ v2).cell? ⟨C, 0, none⟩ = some v0 ∧ (((x.setCell ⟨C, 0, none⟩ v0).setCell ⟨C, 1, none⟩ v1).setCell ⟨C, 2, none⟩ v2).cell? ⟨C, 1, none⟩ = some v1 ∧ (((x.setCell ⟨C, 0, none⟩ v0).setCell ⟨C, 1, none⟩ v1).setCell ⟨C, 2, none⟩ v2).cell? ⟨C, 2, none⟩ = some v2 :=
  ⟨(cs_o (.inr (by omega))).trans ((cs_o (.inr (by omega))).trans (cs_s h0)), (cs_o (.inr (by omega))).trans (cs_s (cell_ex h1)), cs_s (cell_ex (cell_ex h2))⟩
/-- The five boxes of Bolt in memory. -/
structure BtW (w : World) (g : Gt) (p : GtP) (s : St) (on : Bool) (v : Value) (x : World) : Prop where
  below : Below w.heap.size w x
  lt : w.heap.size + 1 + 1 + 1 + 1 < x.heap.size
  rows : x.rangeAt w.heap.size 0 (gtL g p)
  s0 : x.cell? ⟨w.heap.size + 1, 0, none⟩ = some (.int .i64 s.pos)
  s1 : x.cell? ⟨w.heap.size + 1, 1, none⟩ = some (.int .i64 s.charge)
  s2 : x.cell? ⟨w.heap.size + 1, 2, none⟩ = some (.bool s.bolted)
  o0 : x.cell? ⟨w.heap.size + 1 + 1, 0, none⟩ = some (.bool on)
  v0 : x.cell? ⟨w.heap.size + 1 + 1 + 1, 0, none⟩ = some v
  r0 : x.cell? ⟨w.heap.size + 1 + 1 + 1 + 1, 0, none⟩ = some (.int .i64 0)
  r1 : x.cell? ⟨w.heap.size + 1 + 1 + 1 + 1, 1, none⟩ = some (.int .i64 0)
  r2 : x.cell? ⟨w.heap.size + 1 + 1 + 1 + 1, 2, none⟩ = some (.bool false)
  fs : ∀ o, x.frozen? ⟨w.heap.size + 1, o, none⟩ = false
  fr : ∀ o, x.frozen? ⟨w.heap.size + 1 + 1 + 1 + 1, o, none⟩ = false
theorem BtW.later {w x y : World} {g : Gt} {p : GtP} {s : St} {on : Bool} {v : Value} (h : BtW w g p s on v x) (hb : Below x.heap.size x y) : BtW w g p s on v y := by
  have hl := h.lt
  have c : ∀ b o, b < x.heap.size → y.cell? ⟨b, o, none⟩ = x.cell? ⟨b, o, none⟩ := fun b o hlt => hb.cell (p := ⟨b, o, none⟩) hlt
  have f : ∀ b o, b < x.heap.size → y.frozen? ⟨b, o, none⟩ = x.frozen? ⟨b, o, none⟩ := fun b o hlt => hb.frozen (p := ⟨b, o, none⟩) hlt
  exact ⟨bthenY h.below hb, Nat.lt_of_lt_of_le hl hb.size, range_later h.rows hb (by omega), (c _ _ (by omega)).trans h.s0, (c _ _ (by omega)).trans h.s1, (c _ _ (by omega)).trans h.s2, (c _ _ (by omega)).trans h.o0, (c _ _ (by omega)).trans h.v0, (c _ _ (by omega)).trans h.r0, (c _ _ (by omega)).trans h.r1, (c _ _ (by omega)).trans h.r2, fun o => (f _ _ (by omega)).trans (h.fs o), fun o => (f _ _ (by omega)).trans (h.fr o)⟩
theorem BtW.ss {w x : World} {g : Gt} {p : GtP} {s : St} {on : Bool} {v : Value} (h : BtW w g p s on v x) : x.rangeAt (w.heap.size + 1) 0 (stL s) := fun j u hu => by
  have hj : j < 3 := (List.getElem?_eq_some_iff.1 hu).1
  rw [Nat.zero_add]
  match j, hj with
  | 0, _ => have : u = .int .i64 s.pos := by simpa [stL] using hu.symm
            subst this; exact h.s0
  | 1, _ => have : u = .int .i64 s.charge := by simpa [stL] using hu.symm
            subst this; exact h.s1
  | 2, _ => have : u = .bool s.bolted := by simpa [stL] using hu.symm
            subst this; exact h.s2
theorem BtW.start (w : World) (g : Gt) (p : GtP) (s : St) (on : Bool) (v : Value) : BtW w g p s on v (((((w.alloc (.cells (gtL g p).toArray 33)).alloc (.cells #[.int .i64 s.pos, .int .i64 s.charge, .bool s.bolted] 44)).alloc (.cells #[.bool on] 4)).alloc (.cells #[v] 30)).alloc (.cells #[.int .i64 0, .int .i64 0, .bool false] 44)) := by
  have hB : Below (w.alloc (.cells (gtL g p).toArray 33)).heap.size (w.alloc (.cells (gtL g p).toArray 33)) (((((w.alloc (.cells (gtL g p).toArray 33)).alloc (.cells #[.int .i64 s.pos, .int .i64 s.charge, .bool s.bolted] 44)).alloc (.cells #[.bool on] 4)).alloc (.cells #[v] 30)).alloc (.cells #[.int .i64 0, .int .i64 0, .bool false] 44)) := ((((Below.refl _ _).alloc (Nat.le_refl _) _).alloc (by simp) _).alloc (by simp <;> omega) _).alloc (by simp <;> omega) _
  have hA : Below w.heap.size w (w.alloc (.cells (gtL g p).toArray 33)) := (Below.refl _ _).alloc (Nat.le_refl _) _
  exact ⟨hA.trans (hB.mono hA.size), by simp, range_later (range_alloc w (gtL g p) 33) hB (by simp), by simp [go_sem], by simp [go_sem], by simp [go_sem], by simp [go_sem], by simp [go_sem], by simp [go_sem], by simp [go_sem], by simp [go_sem], fun o => by simp [go_sem], fun o => by simp [go_sem]⟩
set_option maxRecDepth 100000 in
set_option maxHeartbeats 4000000 in
theorem bolt_any (g : Gt) (p : GtP) (s : St) (on : Bool) (ra : Option Addr) (rs : List Int) (mc m : Nat) (w : World) (hm : rs.length = m) (hm8 : m ≤ 140737488355328) (hok : GtOk w p g) (hra : IntsAt w ra rs) :
    Calls Try.prog 34 #[.agg (gtL g p).toArray, .agg #[.int .i64 s.pos, .int .i64 s.charge, .bool s.bolted], .bool on, .slice ra m mc] w fun e w' => e = .returned (.tuple #[.agg #[.int .i64 (boltP g s on rs).1.pos, .int .i64 (boltP g s on rs).1.charge, .bool (boltP g s on rs).1.bolted], .int .i64 (boltP g s on rs).2]) ∧ Below w.heap.size w w' := by
  have HE := hid (show boltP g s on rs = if boltEE g s on rs ≠ 0 then (⟨0, 0, false⟩, boltEE g s on rs) else (⟨s.pos, s.charge, on⟩, 0) from rfl)
  have HEE := hid (show boltEE g s on rs = (firstAt 0 [(0, gtE g), (0, stE g s), (0, boltE g s on rs)]).2.2 from rfl)
  have H0 := hid (BtW.start w g p s on (.slice ra m mc))
  have HOk := hid hok; have HRa := hid hra
  clear hok hra
  go_enter Try.func34, Try.ntmps34
  go_wp2_with fail
  generalize hW1 : World.alloc (World.alloc (World.alloc (World.alloc (World.alloc w _) _) _) _) _ = W1
  have sW1 : w.heap.size + 1 + 1 + 1 + 1 + 1 = W1.heap.size := by rw [← hW1]; simp
  rw [hW1] at H0
  clear hW1
  try rw [sW1]
  have hl1 := H0.out.lt
  have C1 : Chk W1.heap.size W1 73 #[.pointer (some ⟨w.heap.size, 0, none⟩)] (0, gtE g) := ⟨callFunc_bolt1, fun W hW => bolt1_any w.heap.size g p W (HOk.out.later (bthenY H0.out.below hW) (Nat.le_refl _)) (range_later H0.out.rows hW (by omega))⟩
  have C2 : Chk W1.heap.size W1 74 #[.pointer (some ⟨w.heap.size, 0, none⟩), .pointer (some ⟨w.heap.size + 1, 0, none⟩)] (0, stE g s) := ⟨callFunc_bolt2, fun W hW => bolt2_any w.heap.size (w.heap.size + 1) g p s W (range_later H0.out.rows hW (by omega)) (H0.out.later hW).ss⟩
  have C3 : Chk W1.heap.size W1 76 #[.pointer (some ⟨w.heap.size, 0, none⟩), .pointer (some ⟨w.heap.size + 1, 0, none⟩), .pointer (some ⟨w.heap.size + 1 + 1, 0, none⟩), .pointer (some ⟨w.heap.size + 1 + 1 + 1, 0, none⟩)] (0, boltE g s on rs) := by
    refine ⟨callFunc_bolt3, fun W hW => ?_⟩
    have hB := bthenY H0.out.below hW
    have hL := H0.out.later hW
    have h1 := HOk.out.later hB (Nat.le_refl _)
    have h2 := HRa.out.later hB (Nat.le_refl _)
    exact bolt3_any w.heap.size (w.heap.size + 1) (w.heap.size + 1 + 1) (w.heap.size + 1 + 1 + 1) g p s on ra rs mc m W hm hm8 h1 h2 hL.rows hL.ss hL.o0 hL.v0
  refine (first3_any _ C1 C2 C3).mono ?_
  rintro e w2 ⟨rfl, hb⟩
  have H2 := hid (H0.out.later (bthenY ((Below.refl _ _).alloc (Nat.le_refl _) _) hb))
  clear C1 C2 C3 hb H0 hl1
  rw [← HEE.out]
  obtain ⟨fr', hfr⟩ : ∃ z, firstAt 0 [(0, gtE g), (0, stE g s), (0, boltE g s on rs)] = z := ⟨_, rfl⟩
  rw [hfr]
  clear hfr HEE
  generalize boltEE g s on rs = x at *
  obtain ⟨-, lt2, -, s0, s1, s2, o0, v0, r0, r1, r2, fs, fr⟩ := H2.out
  have l1 : w.heap.size + 1 < w2.heap.size := by omega
  have l4 : w.heap.size + 1 + 1 + 1 + 1 < w2.heap.size := lt2
  by_cases hx : x = 0
  · have q : (x != 0) = false := by simp [hx]
    have HR := hid (HE.out.trans (if_neg (by simp [hx])))
    clear hx HE
    go_wp2_with fail
    have hB := H2.out.below
    obtain ⟨e0, e1, e2⟩ := set3_cells (x := w2.setCell ⟨w.heap.size + 1, 2, none⟩ (.bool on)) (C := w.heap.size + 1 + 1 + 1 + 1) (v0 := .int .i64 s.pos) (v1 := .int .i64 s.charge) (v2 := .bool on) (cell_ex ⟨_, r0⟩) (cell_ex ⟨_, r1⟩) (cell_ex ⟨_, r2⟩)
    have hF := (((hB.setCell (p := ⟨w.heap.size + 1, 2, none⟩) (by show w.heap.size ≤ w.heap.size + 1; omega) (.bool on)).setCell (p := ⟨w.heap.size + 1 + 1 + 1 + 1, 0, none⟩) (by show w.heap.size ≤ w.heap.size + 1 + 1 + 1 + 1; omega) (.int .i64 s.pos)).setCell (p := ⟨w.heap.size + 1 + 1 + 1 + 1, 1, none⟩) (by show w.heap.size ≤ w.heap.size + 1 + 1 + 1 + 1; omega) (.int .i64 s.charge)).setCell (p := ⟨w.heap.size + 1 + 1 + 1 + 1, 2, none⟩) (by show w.heap.size ≤ w.heap.size + 1 + 1 + 1 + 1; omega) (.bool on)
    generalize World.setCell (World.setCell (World.setCell _ _ _) _ _) _ _ = F at *
    refine bodyPost_ret (v := .tuple #[.agg #[.int .i64 s.pos, .int .i64 s.charge, .bool on], .int .i64 0]) (by simp [results, Try.results34, go_sem, e0, e1, e2]) rfl ⟨by rw [HR.out], hF⟩
  · have q : (x != 0) = true := by simp [hx]
    have HR := hid (HE.out.trans (if_pos hx))
    clear hx HE
    go_wp2_with fail
    have hB := H2.out.below
    obtain ⟨e0, e1, e2⟩ := set3_cells (x := w2) (C := w.heap.size + 1 + 1 + 1 + 1) (v0 := .int .i64 0) (v1 := .int .i64 0) (v2 := .bool false) ⟨_, r0⟩ ⟨_, r1⟩ ⟨_, r2⟩
    have hF := ((hB.setCell (p := ⟨w.heap.size + 1 + 1 + 1 + 1, 0, none⟩) (by show w.heap.size ≤ w.heap.size + 1 + 1 + 1 + 1; omega) (.int .i64 0)).setCell (p := ⟨w.heap.size + 1 + 1 + 1 + 1, 1, none⟩) (by show w.heap.size ≤ w.heap.size + 1 + 1 + 1 + 1; omega) (.int .i64 0)).setCell (p := ⟨w.heap.size + 1 + 1 + 1 + 1, 2, none⟩) (by show w.heap.size ≤ w.heap.size + 1 + 1 + 1 + 1; omega) (.bool false)
    generalize World.setCell (World.setCell (World.setCell _ _ _) _ _) _ _ = F at *
    refine bodyPost_ret (v := .tuple #[.agg #[.int .i64 0, .int .i64 0, .bool false], .int .i64 x]) (by simp [results, Try.results34, go_sem, e0, e1, e2]) rfl ⟨by rw [HR.out], hF⟩
end Go.Proofs.Ytpgggffcpcjahaa
