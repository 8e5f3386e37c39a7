/- Gate, part YA: Time. -/
import Derived.Test.YtdoklolinbmhpaaGreatWZ
import Derived.Test.YtdoklolinbmhpaaGreatWP
import Derived.Test.YtdoklolinbmhpaaGreatWN
import Derived.OwnWalk
set_option linter.all false
namespace Go.Proofs.YtdoklolinbmhpaaGreat
open Go.RowKit

theorem wpList_bsl {P : Program} {ops : Array Oper} {rest : List Oper} {o : Oper} {a : Act} {w w' : World} {Q : Exit → Act → World → Prop} {v : Value} {vs : Array (Nat × Value)} {t : TypeId} {len : Nat} {parts : Array (Nat × Operand)} (hr : (Instr.buildSlice t len vs).run P w = .ok v w') (hg : o.guard = none) (ho : o.op = .buildSlice t len parts) (hvs : (parts.map fun (i, x) => (i, a.eval x)) = vs)
    (h : wpList P ops Q rest (a.put o.dst v) w') : wpList P ops Q (o :: rest) a w :=
  wpList_plain hg fun _ hK => wp_buildTwo hr ho hvs (hK _ _ h)
theorem run_oneG (W : World) (g : Gt) (p : GtP) : (Instr.buildSlice 57 1 #[(0, .agg (gtL g p).toArray)]).run Tryz.prog W = .ok (.slice (some ⟨W.heap.size, 0, none⟩) 1 1) (W.alloc (.cells (gtL g p).toArray 25)) := by
  obtain ⟨ie, hie, hz, hs, _⟩ := info_parts Tryz.infoGt
  refine run_buildSlice W _ _ 1 _ _ ie _ Tryz.underlying57 hie hz (by rw [hs]; decide) (by rw [hs]; decide) ?_
  rw [hs]; kernel_rfl
theorem run_oneS (W : World) (s : St) : (Instr.buildSlice 36 1 #[(0, .agg #[.int .i64 s.pos, .int .i64 s.charge, .bool s.bolted])]).run Tryz.prog W = .ok (.slice (some ⟨W.heap.size, 0, none⟩) 1 1) (W.alloc (.cells (stL s).toArray 27)) := by
  obtain ⟨ie, hie, hz, hs, _⟩ := info_parts Tryz.infoSt
  refine run_buildSlice W _ _ 1 _ _ ie _ Tryz.underlying36 hie hz (by rw [hs]; decide) (by rw [hs]; decide) ?_
  rw [hs]; kernel_rfl
theorem run_oneP (W : World) (t : Sp) : (Instr.buildSlice 28 1 #[(0, .agg #[.int .i64 t.order, .bool t.power, .int .i64 t.outer, .int .i64 t.inner])]).run Tryz.prog W = .ok (.slice (some ⟨W.heap.size, 0, none⟩) 1 1) (W.alloc (.cells (spL t).toArray 35)) := by
  obtain ⟨ie, hie, hz, hs, _⟩ := info_parts Tryz.infoSp
  refine run_buildSlice W _ _ 1 _ _ ie _ Tryz.underlying28 hie hz (by rw [hs]; decide) (by rw [hs]; decide) ?_
  rw [hs]; kernel_rfl
theorem Tryz.infoBo : (Tryz.prog.info? 4).map (fun i => (i.zero, i.size, i.bytes)) = some (some (.bool false), 1, 1) := by kernel_rfl
theorem run_oneB (W : World) : (Instr.buildSlice 61 1 #[(0, .bool false)]).run Tryz.prog W = .ok (.slice (some ⟨W.heap.size, 0, none⟩) 1 1) (W.alloc (.cells [.bool false].toArray 4)) := by
  obtain ⟨ie, hie, hz, hs, _⟩ := info_parts Tryz.infoBo
  refine run_buildSlice W _ _ 1 _ _ ie _ Tryz.underlying61 hie hz (by rw [hs]; decide) (by rw [hs]; decide) ?_
  rw [hs]; kernel_rfl
theorem rows_one {α : Type} {L : Nat → α → List Value} {size b : Nat} {w : World} {x : α} (hb : b < w.heap.size) (h : w.rangeAt b 0 (L 0 x)) : RowsL L size w (some ⟨b, 0, none⟩) [x] :=
  .inr ⟨b, 0, rfl, hb, fun i hi => by
    have h0 : i = 0 := by simpa using hi
    subst h0; simpa using h⟩
theorem setGood_one {g : Gt} (hg : GtGood g) : SetGood [g] [] :=
  ⟨⟨Nat.le_refl 1, (by decide : 1 ≤ 6)⟩, fun i hi => by
    have h0 : i = 0 := by simpa using hi
    subst h0; exact hg, Nat.zero_le _, fun i hi => absurd hi (Nat.not_lt_zero i)⟩
theorem one_boxY {w x : World} {cs : List Value} {T : TypeId} (hb : Below (w.alloc (.cells cs.toArray T)).heap.size (w.alloc (.cells cs.toArray T)) x) : x.rangeAt w.heap.size 0 cs ∧ w.heap.size < x.heap.size ∧ Below w.heap.size w x := by
  have hA : Below w.heap.size w (w.alloc (.cells cs.toArray T)) := (Below.refl _ _).alloc (Nat.le_refl _) _
  have R := range_alloc w cs T
  have hs : w.heap.size < (w.alloc (.cells cs.toArray T)).heap.size := by simp
  exact ⟨range_later R hb hs, Nat.lt_of_lt_of_le hs hb.size, hA.trans (hb.mono hA.size)⟩
/-- The four lists that Time builds. -/
theorem bthenY {w x y : World} (h : Below w.heap.size w x) (k : Below x.heap.size x y) : Below w.heap.size w y := h.trans (k.mono h.size)
theorem four_boxes {w : World} {cs ds es fs : List Value} {T S R Q : TypeId} : let x := (((w.alloc (.cells cs.toArray T)).alloc (.cells ds.toArray S)).alloc (.cells es.toArray R)).alloc (.cells fs.toArray Q)
    x.rangeAt w.heap.size 0 cs ∧ x.rangeAt (w.heap.size + 1) 0 ds ∧ x.rangeAt (w.heap.size + 1 + 1) 0 es ∧ x.rangeAt (w.heap.size + 1 + 1 + 1) 0 fs ∧ w.heap.size + 1 + 1 + 1 < x.heap.size ∧ Below w.heap.size w x := by
  have hA : Below w.heap.size w (w.alloc (.cells cs.toArray T)) := (Below.refl _ _).alloc (Nat.le_refl _) _
  have RA := range_alloc w cs T
  have sA : (w.alloc (.cells cs.toArray T)).heap.size = w.heap.size + 1 := by simp
  generalize w.alloc (.cells cs.toArray T) = A at *
  have hB : Below A.heap.size A (A.alloc (.cells ds.toArray S)) := (Below.refl _ _).alloc (Nat.le_refl _) _
  have RB := range_alloc A ds S
  have sB : (A.alloc (.cells ds.toArray S)).heap.size = w.heap.size + 1 + 1 := by simp [sA]
  generalize A.alloc (.cells ds.toArray S) = B at *
  have hC : Below B.heap.size B (B.alloc (.cells es.toArray R)) := (Below.refl _ _).alloc (Nat.le_refl _) _
  have RC := range_alloc B es R
  have sC : (B.alloc (.cells es.toArray R)).heap.size = w.heap.size + 1 + 1 + 1 := by simp [sB]
  generalize B.alloc (.cells es.toArray R) = C at *
  have hD : Below C.heap.size C (C.alloc (.cells fs.toArray Q)) := (Below.refl _ _).alloc (Nat.le_refl _) _
  have RD := range_alloc C fs Q
  have sD : (C.alloc (.cells fs.toArray Q)).heap.size = w.heap.size + 1 + 1 + 1 + 1 := by simp [sC]
  generalize C.alloc (.cells fs.toArray Q) = D at *
  rw [sA] at RB
  rw [sB] at RC
  rw [sC] at RD
  have hBC := bthenY hB hC
  have hBD := bthenY hBC hD
  have hCD := bthenY hC hD
  exact ⟨range_later RA hBD (by omega), range_later RB hCD (by omega), range_later RC hD (by omega), RD, by omega, bthenY hA hBD⟩

/-- Time's two boxes in memory. -/
structure TmW (w : World) (g : Gt) (p : GtP) (s : St) (x : World) : Prop where
  below : Below w.heap.size w x
  lt : w.heap.size + 1 < x.heap.size
  rows : x.rangeAt w.heap.size 0 (gtL g p)
  ss : x.rangeAt (w.heap.size + 1) 0 (stL s)
theorem TmW.later {w x y : World} {g : Gt} {p : GtP} {s : St} (h : TmW w g p s x) (hb : Below x.heap.size x y) : TmW w g p s y := by
  have hl := h.lt
  exact ⟨bthenY h.below hb, Nat.lt_of_lt_of_le hl hb.size, range_later h.rows hb (by omega), range_later h.ss hb (by omega)⟩
theorem TmW.start (w : World) (g : Gt) (p : GtP) (s : St) : TmW w g p s ((w.alloc (.cells (gtL g p).toArray 25)).alloc (.cells #[.int .i64 s.pos, .int .i64 s.charge, .bool s.bolted] 27)) := by
  have hA : Below w.heap.size w (w.alloc (.cells (gtL g p).toArray 25)) := (Below.refl _ _).alloc (Nat.le_refl _) _
  have R0 := range_alloc w (gtL g p) 25
  have sA : (w.alloc (.cells (gtL g p).toArray 25)).heap.size = w.heap.size + 1 := by simp
  generalize w.alloc (.cells (gtL g p).toArray 25) = A at *
  have R1 := range_alloc A (stL s) 27
  have hB : Below A.heap.size A (A.alloc (.cells (stL s).toArray 27)) := (Below.refl _ _).alloc (Nat.le_refl _) _
  rw [sA] at R1
  exact ⟨bthenY hA hB, by simp [sA], range_later R0 hB (by omega), R1⟩
set_option maxRecDepth 100000 in
set_option maxHeartbeats 4000000 in
theorem time_any (g : Gt) (p : GtP) (s : St) (o i : Int) (pw : Bool) (w : World) (hok : GtOk w p g) :
    Calls Tryz.prog 14 #[.agg (gtL g p).toArray, .agg #[.int .i64 s.pos, .int .i64 s.charge, .bool s.bolted], .int .i64 o, .int .i64 i, .bool pw] w fun e w' => e = .returned (.tuple #[.int .i64 (timeP g s o i pw).1, .int .i64 (timeP g s o i pw).2]) ∧ Below w.heap.size w w' := by
  have HE := hid (show timeP g s o i pw = if gtE g ≠ 0 then (0, gtE g) else if spE g s (toCloseT o i pw) ≠ 0 then (0, spE g s (toCloseT o i pw)) else searchF [g] [] [toCloseT o i pw] [false] 0 2000 [s] from rfl)
  have HOk := hid hok
  clear hok
  have HGd := hid (fun h => gtGood (g := g) h)
  have HSd := hid (fun h => spGoods (g := g) (s := s) (t := toCloseT o i pw) h)
  have H0 := hid (TmW.start w g p s)
  have R1 := H0.out.rows
  go_enter Tryz.func14, Tryz.ntmps14
  go_wp2_with (refine wpList_load_mid rfl 25 _ rfl _ 0 rfl (gtL g p) _ (R1) Tryz.underlying25 rfl (by kernel_rfl) ?_)
  refine (gateError_any g p _ (HOk.out.later H0.out.below (Nat.le_refl _))).mono ?_
  rintro e w1 ⟨rfl, hb⟩
  have H1 := hid (H0.out.later hb)
  clear R1 H0 hb
  generalize gtE g = x0 at *
  by_cases hx : x0 = 0
  · have q : (x0 != 0) = false := by simp [hx]
    have HX := hid hx
    clear hx
    go_wp2_with fail
    refine (toClose_any o i pw _).mono ?_
    rintro e w2 ⟨rfl, hb⟩
    have H2 := hid (H1.out.later hb)
    have l2 := H2.out.lt
    have l2a : w.heap.size < w2.heap.size := by omega
    have s0 := range_cell H2.out.ss (show (stL s)[0]? = some (.int .i64 s.pos) from rfl)
    have s1 := range_cell H2.out.ss (show (stL s)[1]? = some (.int .i64 s.charge) from rfl)
    have s2 := range_cell H2.out.ss (show (stL s)[2]? = some (.bool s.bolted) from rfl)
    clear H1 hb
    go_wp2_with (refine wpList_load_mid rfl 25 _ rfl _ 0 rfl (gtL g p) _ ((H2.out.later ((Below.refl _ _).alloc (Nat.le_refl _) _)).rows) Tryz.underlying25 rfl (by kernel_rfl) ?_)
    refine (stepError_any g p s (toCloseT o i pw) _).mono ?_
    rintro e w3 ⟨rfl, hb⟩
    obtain ⟨rt, l3, b23⟩ := one_boxY (cs := spL (toCloseT o i pw)) hb
    have H3 := hid (H2.out.later b23)
    clear s0 s1 s2 H2 hb l2a
    generalize spE g s (toCloseT o i pw) = y0 at *
    by_cases hy : y0 = 0
    · have q2 : (y0 != 0) = false := by simp [hy]
      have HY := hid hy
      clear hy
      have HR := hid (HE.out.trans ((if_neg (by simp [HX.out])).trans (if_neg (by simp [HY.out]))))
      obtain ⟨t, ht⟩ : ∃ t, toCloseT o i pw = t := ⟨_, rfl⟩
      have t0 := range_cell rt (show (spL (toCloseT o i pw))[0]? = some (.int .i64 1) from rfl)
      have t1 := range_cell rt (show (spL (toCloseT o i pw))[1]? = some (.bool pw) from rfl)
      have t2 := range_cell rt (show (spL (toCloseT o i pw))[2]? = some (.int .i64 o) from rfl)
      have t3 := range_cell rt (show (spL (toCloseT o i pw))[3]? = some (.int .i64 i) from rfl)
      have l3b := H3.out.lt
      have l3a : w.heap.size < w3.heap.size := by omega
      have s0 := range_cell H3.out.ss (show (stL s)[0]? = some (.int .i64 s.pos) from rfl)
      have s1 := range_cell H3.out.ss (show (stL s)[1]? = some (.int .i64 s.charge) from rfl)
      have s2 := range_cell H3.out.ss (show (stL s)[2]? = some (.bool s.bolted) from rfl)
      have HS := hid (fun W (hB : Below w.heap.size w W) (A B C D : Nat) (r : (W.rangeAt A 0 (gtL g p) ∧ W.rangeAt B 0 (stL s) ∧ W.rangeAt C 0 (spL (toCloseT o i pw)) ∧ W.rangeAt D 0 [.bool false]) ∧ A < W.heap.size ∧ B < W.heap.size ∧ C < W.heap.size ∧ D < W.heap.size) => stepsToShut_any (some ⟨A, 0, none⟩) (some ⟨B, 0, none⟩) (some ⟨C, 0, none⟩) (some ⟨D, 0, none⟩) none [g] [] [s] [toCloseT o i pw] [false] 1 1 1 1 0 1 (fun _ => p) W rfl (rows_one r.2.1 r.1.1) (fun i hi => by
        have h0 : i = 0 := by simpa using hi
        subst h0; exact HOk.out.later hB (Nat.le_refl _)) (.inl rfl) (rows_one r.2.2.1 r.1.2.1) (rows_one r.2.2.2.1 r.1.2.2.1) (rows_one (L := fun _ b => [.bool b]) r.2.2.2.2 r.1.2.2.2) rfl rfl rfl (setGood_one (HGd.out HX.out)) (fun i hi => by
        have h0 : i = 0 := by omega
        subst h0; exact (HSd.out HY.out).1) (fun i hi => by
        have h0 : i = 0 := by omega
        subst h0; exact (HSd.out HY.out).2))
      clear ht t l2 HGd HSd
      generalize searchF [g] [] [toCloseT o i pw] [false] 0 2000 [s] = r at *
      generalize w2.heap.size = tb at *
      go_wp2_with (first | (refine wpList_load_mid rfl 25 _ rfl _ 0 rfl (gtL g p) _ (H3.out.rows) Tryz.underlying25 rfl (by kernel_rfl) ?_) | (apply wpList_bsl (hr := run_oneG _ g p); exact rfl; exact rfl; kernel_rfl) | (apply wpList_bsl (hr := run_oneS _ s); exact rfl; exact rfl; kernel_rfl) | (apply wpList_bsl (hr := run_oneP _ (toCloseT o i pw)); exact rfl; exact rfl; kernel_rfl) | (apply wpList_bsl (hr := run_oneB _); exact rfl; exact rfl; kernel_rfl))
      obtain ⟨r0, r1, r2, r3, lr, bx⟩ := four_boxes (w := w3) (cs := gtL g p) (ds := stL s) (es := spL (toCloseT o i pw)) (fs := [.bool false]) (T := 25) (S := 27) (R := 35) (Q := 4)
      refine (HS.out _ (bthenY H3.out.below bx) _ _ _ _ ⟨⟨r0, r1, r2, r3⟩, by omega, by omega, by omega, lr⟩).mono ?_
      rintro e w4 ⟨rfl, hb4⟩
      clear r0 r1 r2 r3 s0 s1 s2 t0 t1 t2 t3
      go_wp2_with fail
      go_ret2
      exact ⟨ret_two (by rw [HR.out]) (by rw [HR.out]), bthenY (bthenY H3.out.below bx) hb4⟩
    · have q2 : (y0 != 0) = true := by simp [hy]
      have HY := hid hy
      clear hy
      go_wp2_with fail
      go_ret2
      exact ⟨ret_two (by rw [HE.out, if_neg (by simp [HX.out]), if_pos HY.out]) (by rw [HE.out, if_neg (by simp [HX.out]), if_pos HY.out]), H3.out.below⟩
  · have q : (x0 != 0) = true := by simp [hx]
    have HX := hid hx
    clear hx
    go_wp2_with fail
    go_ret2
    exact ⟨ret_two (by rw [HE.out, if_pos HX.out]) (by rw [HE.out, if_pos HX.out]), H1.out.below⟩
end Go.Proofs.YtdoklolinbmhpaaGreat

set_option linter.all false
namespace Go.Proofs.YtdoklolinbmhpaaGreat
open Go.RowKit

/-! ### Rows that a call gathers -/
theorem grown_of_below {w w' : World} {row : Option Nat} (h : Below w.heap.size w w') : w.grownBy w' row := ⟨h.os, h.tape, h.output, h.size, fun k hk _ => h.block k hk⟩
theorem addr_add0 (g n : Nat) : (⟨g, 0, none⟩ : Addr).add n = ⟨g, n, none⟩ := by unfold Addr.add; split <;> simp_all
theorem ownsRow_below {w w' : World} {base : Nat} {T : TypeId} {sz : Nat} {v : Value} {n : Nat} {xs : List Value} (h : w.ownsRow base T sz v n xs) (hb : Below w.heap.size w w') : w'.ownsRow base T sz v n xs := by
  refine h.kept (grown_of_below (row := none) hb) ?_
  cases v.ownBlock <;> simp
theorem below_own {w w' : World} {base B : Nat} {T : TypeId} {sz : Nat} {v : Value} {n : Nat} {xs : List Value} (h : w.ownsRow base T sz v n xs) (hB : B ≤ base) (hs : B ≤ w.heap.size) (hg : w.grownBy w' v.ownBlock) : Below B w w' :=
  ⟨hg.os, hg.tape, hg.output, hg.size, fun k hk => hg.block k (by omega) (fun e => by have := (h.lt k e.symm).1; omega)⟩
theorem ownsRow_set {w : World} {base : Nat} {T : TypeId} {sz : Nat} {v : Value} {n : Nat} {xs : List Value} (h : w.ownsRow base T sz v n xs) (p : Addr) (x : Value) (ho : v.ownBlock ≠ some p.block) : (w.setCell p x).ownsRow base T sz v n xs := by
  refine h.kept (row := some p.block) ⟨rfl, rfl, rfl, by simp [World.setCell], fun k hk hne => ?_⟩ (by cases hv : v.ownBlock with | none => exact .inl rfl | some g => right; intro e; exact ho (by rw [hv]; exact e))
  exact Below.heap_setCell _ _ _ _ (fun e => hne (by rw [e]))
theorem ownsRow_lt {w : World} {base : Nat} {T : TypeId} {sz : Nat} {v : Value} {n : Nat} {xs : List Value} (h : w.ownsRow base T sz v n xs) {b : Nat} (hb : b < base ∨ w.heap.size ≤ b) : v.ownBlock ≠ some b := fun e => by
  have := h.lt b e; omega
theorem flat_get {α : Type} {L : α → List Value} {size : Nat} (hL : ∀ x, (L x).length = size) : ∀ (l : List α) (i : Nat) (h : i < l.length) (j : Nat), j < size → (l.flatMap L)[i * size + j]? = (L l[i])[j]?
  | [], i, h, _, _ => by simp at h
  | x :: r, 0, h, j, hj => by
    rw [List.flatMap_cons, Nat.zero_mul, Nat.zero_add, List.getElem?_append_left (by rw [hL]; exact hj)]; rfl
  | x :: r, i + 1, h, j, hj => by
    have := flat_get hL r i (by simpa using h) j hj
    rw [List.flatMap_cons, List.getElem?_append_right (by rw [hL, Nat.add_mul]; omega), hL, show (i + 1) * size + j - size = i * size + j by rw [Nat.add_mul]; omega, this]
    rfl
/-- A row that the call itself gathered, in memory. -/
theorem rows_of_own {α : Type} {L : α → List Value} {size base : Nat} (hL : ∀ x, (L x).length = size) {w : World} {T : TypeId} {v : Value} {l : List α} (h : w.ownsRow base T size v l.length (l.flatMap L)) :
    ∃ a cap, v = .slice a l.length cap ∧ RowsL (fun _ x => L x) size w a l := by
  rcases h.2 with ⟨rfl, hn⟩ | ⟨g, cap, cur, rfl, hb, hg, _⟩
  · exact ⟨none, 0, by rw [hn], .inl (List.length_eq_zero_iff.1 hn)⟩
  · refine ⟨_, cap, rfl, .inr ⟨g, 0, rfl, (Array.getElem?_eq_some_iff.1 hg).1, fun i hi j u hu => ?_⟩⟩
    have hj : j < size := by have := (List.getElem?_eq_some_iff.1 hu).1; rwa [hL] at this
    have c := h.cells (g := g) rfl (i * size + j) u (by rw [flat_get hL l i hi j hj]; exact hu)
    rw [addr_add0] at c
    rw [Nat.zero_add]; exact c

/-! ### What Run looks at -/
theorem callFunc_run1 (args : Array Value) (w : World) : (callFunc 34 args).run Tryz.prog w = .ok (.enter 34 args) w := by simp [go_sem]
theorem callFunc_run2 (args : Array Value) (w : World) : (callFunc 36 args).run Tryz.prog w = .ok (.enter 36 args) w := by simp [go_sem]
theorem callFunc_run3 (args : Array Value) (w : World) : (callFunc 39 args).run Tryz.prog w = .ok (.enter 39 args) w := by simp [go_sem]
set_option maxRecDepth 100000 in
set_option maxHeartbeats 1000000 in
theorem run1_any (tb : Nat) (g : Gt) (p : GtP) (w : World) (hok : GtOk w p g) (hr : w.rangeAt tb 0 (gtL g p)) :
    Calls Tryz.prog 34 #[.pointer (some ⟨tb, 0, none⟩)] w fun e w' => e = .returned (.tuple #[.int .i64 0, .int .i64 (gtE g)]) ∧ Below w.heap.size w w' := by
  have HOk := hid hok
  clear hok
  go_enter Tryz.func34, Tryz.ntmps34
  go_wp2_with (refine wpList_load_mid rfl 25 _ rfl _ 0 rfl (gtL g p) _ hr Tryz.underlying25 rfl (by kernel_rfl) ?_)
  refine (gateError_any g p _ HOk.out).mono ?_
  rintro e w' ⟨rfl, hb⟩
  go_wp2_with fail
  go_ret2
  exact ⟨ret_two rfl rfl, hb⟩
set_option maxRecDepth 100000 in
set_option maxHeartbeats 1000000 in
theorem run2_any (tb sb : Nat) (g : Gt) (p : GtP) (s : St) (w : World) (hr : w.rangeAt tb 0 (gtL g p)) (hs : w.rangeAt sb 0 (stL s)) :
    Calls Tryz.prog 36 #[.pointer (some ⟨tb, 0, none⟩), .pointer (some ⟨sb, 0, none⟩)] w fun e w' => e = .returned (.tuple #[.int .i64 0, .int .i64 (stE g s)]) ∧ Below w.heap.size w w' := by
  have s0 := range_cell hs (show (stL s)[0]? = some (.int .i64 s.pos) from rfl)
  have s1 := range_cell hs (show (stL s)[1]? = some (.int .i64 s.charge) from rfl)
  have s2 := range_cell hs (show (stL s)[2]? = some (.bool s.bolted) from rfl)
  go_enter Tryz.func36, Tryz.ntmps36
  go_wp2_with (refine wpList_load_mid rfl 25 _ rfl _ 0 rfl (gtL g p) _ hr Tryz.underlying25 rfl (by kernel_rfl) ?_)
  refine (stateError_any g p s _).mono ?_
  rintro e w' ⟨rfl, hb⟩
  go_wp2_with fail
  go_ret2
  exact ⟨ret_two rfl rfl, hb⟩
set_option maxRecDepth 100000 in
set_option maxHeartbeats 1000000 in
theorem run3_any (lb b o cap i : Nat) (l : List Sp) (w : World) (hi : i < l.length) (h0 : w.cell? ⟨lb, 0, none⟩ = some (.slice (some ⟨b, o, none⟩) l.length cap)) (hat : ∀ i (h : i < l.length), w.rangeAt b (o + i * 4) (spL l[i])) :
    Calls Tryz.prog 39 #[.int .i64 i, .pointer (some ⟨lb, 0, none⟩)] w fun e w' => e = .returned (.int .i64 (ordE (l.getD i default))) ∧ Below w.heap.size w w' := by
  have Rt := hat i hi
  have HX := hid (show l.getD i default = l[i] by simp [List.getD, hi])
  rw [HX.out]
  generalize l[i] = t at *
  have t0 : w.cell? ⟨b, o + i * 4, none⟩ = some (.int .i64 t.order) := by simpa using Rt 0 _ (show (spL t)[0]? = some (.int .i64 t.order) from rfl)
  have t1 : w.cell? ⟨b, o + i * 4 + 1, none⟩ = some (.bool t.power) := Rt 1 _ rfl
  have t2 : w.cell? ⟨b, o + i * 4 + 2, none⟩ = some (.int .i64 t.outer) := Rt 2 _ rfl
  have t3 : w.cell? ⟨b, o + i * 4 + 3, none⟩ = some (.int .i64 t.inner) := Rt 3 _ rfl
  have hiI : (i : Int) < (l.length : Int) := by omega
  have hi0 : (0 : Int) ≤ (i : Int) := Int.natCast_nonneg _
  clear Rt hat HX
  go_enter Tryz.func39, Tryz.ntmps39
  go_wp2_with fail
  refine (orderError_any t _).mono ?_
  rintro e w' ⟨rfl, hb⟩
  go_wp2_with fail
  go_ret
  exact ⟨rfl, hb⟩
theorem first4_any {K0 K1 K2 K3 : FuncId} {c0 c1 c2 c3 : Array Value} {p0 p1 p2 p3 : Int × Int} {w1 : World} (T : TypeId) (h0 : Chk w1.heap.size w1 K0 c0 p0) (h1 : Chk w1.heap.size w1 K1 c1 p1) (h2 : Chk w1.heap.size w1 K2 c2 p2) (h3 : Chk w1.heap.size w1 K3 c3 p3) :
    Calls Tryz.prog 33 #[.slice (some ⟨w1.heap.size, 0, none⟩) 4 4] (w1.alloc (.cells #[.func (.func K0) #[] c0, .func (.func K1) #[] c1, .func (.func K2) #[] c2, .func (.func K3) #[] c3] T))
      fun e w' => e = .returned (.tuple #[.int .i64 (firstAt 0 [p0, p1, p2, p3]).1, .int .i64 (firstAt 0 [p0, p1, p2, p3]).2.1, .int .i64 (firstAt 0 [p0, p1, p2, p3]).2.2]) ∧ Below (w1.alloc (.cells #[.func (.func K0) #[] c0, .func (.func K1) #[] c1, .func (.func K2) #[] c2, .func (.func K3) #[] c3] T)).heap.size (w1.alloc (.cells #[.func (.func K0) #[] c0, .func (.func K1) #[] c1, .func (.func K2) #[] c2, .func (.func K3) #[] c3] T)) w' := by
  have ha : Below w1.heap.size w1 (w1.alloc (.cells #[.func (.func K0) #[] c0, .func (.func K1) #[] c1, .func (.func K2) #[] c2, .func (.func K3) #[] c3] T)) := (Below.refl _ _).alloc (Nat.le_refl _) _
  have k0 := h0.later ha
  have k1 := h1.later ha
  have k2 := h2.later ha
  have k3 := h3.later ha
  refine first_any w1.heap.size (w1.alloc (.cells #[.func (.func K0) #[] c0, .func (.func K1) #[] c1, .func (.func K2) #[] c2, .func (.func K3) #[] c3] T)) [p0, p1, p2, p3] w1.heap.size 0 4 (fun i => match i with | 0 => K0 | 1 => K1 | 2 => K2 | _ => K3) (fun i => match i with | 0 => c0 | 1 => c1 | 2 => c2 | _ => c3) _ (by simp) (by simp) (Below.refl _ _) (by simp) (fun i hi => ?_) (fun i hi => ?_)
  · match i, hi with
    | 0, _ => simp [go_sem]
    | 1, _ => simp [go_sem]
    | 2, _ => simp [go_sem]
    | 3, _ => simp [go_sem]
  · match i, hi with
    | 0, _ => exact k0
    | 1, _ => exact k1
    | 2, _ => exact k2
    | 3, _ => exact k3

/-- What Run returns: the states, and the error. -/
def runL (g : Gt) (s : St) (l : List Sp) : List St := if runE g s l = 0 then scanF g s l else []
theorem take_snoc {α : Type} [Inhabited α] {l : List α} {k : Nat} (h : k < l.length) : l.take (k + 1) = l.take k ++ [l.getD k default] := by
  rw [List.take_succ, List.getElem?_eq_getElem h]; simp [List.getD, h]
theorem scan_take {g : Gt} {s : St} {l : List Sp} {k : Nat} (h : k < l.length) : scanF g s (l.take (k + 1)) = scanF g s (l.take k) ++ [(stepF g (lastF g s (l.take k)) (l.getD k default) 0).1] := by
  rw [take_snoc h, scan_append]; rfl
theorem last_take {g : Gt} {s : St} {l : List Sp} {k : Nat} (h : k < l.length) : lastF g s (l.take (k + 1)) = (stepF g (lastF g s (l.take k)) (l.getD k default) 0).1 := by
  rw [take_snoc h, last_append]; rfl
theorem runE_ok {g : Gt} {s : St} {l : List Sp} (h : runE g s l = 0) : gtE g = 0 ∧ l.length ≤ 2000 ∧ stE g s = 0 ∧ ∀ i, i < l.length → ordE (l.getD i default) = 0 := by
  unfold runE at h
  rw [firstAt_all] at h
  simp only [List.mem_cons, List.not_mem_nil, or_false, forall_eq_or_imp, forall_eq, each_all0] at h
  rw [must_zero (by decide)] at h
  simp only [decide_eq_true_eq] at h
  exact ⟨h.1, by omega, h.2.2.1, fun i hi => h.2.2.2 i (Nat.zero_le _) (by omega)⟩
/-- The three boxes of Run in memory. -/
structure RnW (w : World) (g : Gt) (p : GtP) (s : St) (v : Value) (x : World) : Prop where
  below : Below w.heap.size w x
  lt : w.heap.size + 1 + 1 < x.heap.size
  rows : x.rangeAt w.heap.size 0 (gtL g p)
  ss : x.rangeAt (w.heap.size + 1) 0 (stL s)
  vs : x.rangeAt (w.heap.size + 1 + 1) 0 [v]
  fr : ∀ o, x.frozen? ⟨w.heap.size + 1, o, none⟩ = false
theorem RnW.later {w x y : World} {g : Gt} {p : GtP} {s : St} {v : Value} (h : RnW w g p s v x) (hb : Below x.heap.size x y) : RnW w g p s v y := by
  have hl := h.lt
  exact ⟨bthenY h.below hb, Nat.lt_of_lt_of_le hl hb.size, range_later h.rows hb (by omega), range_later h.ss hb (by omega), range_later h.vs hb (by omega), fun o => (hb.frozen (p := ⟨w.heap.size + 1, o, none⟩) (by show w.heap.size + 1 < x.heap.size; omega)).trans (h.fr o)⟩
theorem RnW.laterB {w x y : World} {g : Gt} {p : GtP} {s : St} {v : Value} {B : Nat} (h : RnW w g p s v x) (hb : Below B x y) (hB : w.heap.size + 1 + 1 < B) : RnW w g p s v y :=
  ⟨h.below.trans (hb.mono (by omega)), Nat.lt_of_lt_of_le h.lt hb.size, range_later h.rows hb (by omega), range_later h.ss hb (by omega), range_later h.vs hb (by omega), fun o => (hb.frozen (p := ⟨w.heap.size + 1, o, none⟩) (by show w.heap.size + 1 < B; omega)).trans (h.fr o)⟩
/-- The state's box is written. -/
theorem RnW.set {w x : World} {g : Gt} {p : GtP} {s : St} {v : Value} (h : RnW w g p s v x) (u : St) : RnW w g p u v (((x.setCell ⟨w.heap.size + 1, 0, none⟩ (.int .i64 u.pos)).setCell ⟨w.heap.size + 1, 1, none⟩ (.int .i64 u.charge)).setCell ⟨w.heap.size + 1, 2, none⟩ (.bool u.bolted)) := by
  have s0 := range_cell h.ss (show (stL s)[0]? = some (.int .i64 s.pos) from rfl)
  have s1 := range_cell h.ss (show (stL s)[1]? = some (.int .i64 s.charge) from rfl)
  have s2 := range_cell h.ss (show (stL s)[2]? = some (.bool s.bolted) from rfl)
  have o : ∀ b j, b ≠ w.heap.size + 1 → (((x.setCell ⟨w.heap.size + 1, 0, none⟩ (.int .i64 u.pos)).setCell ⟨w.heap.size + 1, 1, none⟩ (.int .i64 u.charge)).setCell ⟨w.heap.size + 1, 2, none⟩ (.bool u.bolted)).cell? ⟨b, j, none⟩ = x.cell? ⟨b, j, none⟩ := fun b j hb => (cs_o (.inl hb)).trans ((cs_o (.inl hb)).trans (cs_o (.inl hb)))
  refine ⟨((h.below.setCell (by show w.heap.size ≤ w.heap.size + 1; omega) _).setCell (by show w.heap.size ≤ w.heap.size + 1; omega) _).setCell (by show w.heap.size ≤ w.heap.size + 1; omega) _, by simpa using h.lt, fun j v hv => (o _ _ (by omega)).trans (h.rows j v hv), fun j v hv => ?_, fun j v hv => (o _ _ (by omega)).trans (h.vs j v hv), fun o => by simpa using h.fr o⟩
  have hj : j < 3 := (List.getElem?_eq_some_iff.1 hv).1
  rw [Nat.zero_add]
  match j, hj with
  | 0, _ =>
    have : v = .int .i64 u.pos := by simpa [stL] using hv.symm
    subst this
    exact (cs_o (.inr (by omega))).trans ((cs_o (.inr (by omega))).trans (cs_s ⟨_, s0⟩))
  | 1, _ =>
    have : v = .int .i64 u.charge := by simpa [stL] using hv.symm
    subst this
    exact (cs_o (.inr (by omega))).trans (cs_s (cell_ex ⟨_, s1⟩))
  | 2, _ =>
    have : v = .bool u.bolted := by simpa [stL] using hv.symm
    subst this
    exact cs_s (cell_ex (cell_ex ⟨_, s2⟩))
theorem RnW.start (w : World) (g : Gt) (p : GtP) (s : St) (v : Value) : RnW w g p s v (((w.alloc (.cells (gtL g p).toArray 25)).alloc (.cells #[.int .i64 s.pos, .int .i64 s.charge, .bool s.bolted] 27)).alloc (.cells #[v] 28)) := by
  have fz : ∀ o, (((w.alloc (.cells (gtL g p).toArray 25)).alloc (.cells #[.int .i64 s.pos, .int .i64 s.charge, .bool s.bolted] 27)).alloc (.cells #[v] 28)).frozen? ⟨w.heap.size + 1, o, none⟩ = false := by intro o; simp [go_sem]
  have hA : Below w.heap.size w (w.alloc (.cells (gtL g p).toArray 25)) := (Below.refl _ _).alloc (Nat.le_refl _) _
  have R0 := range_alloc w (gtL g p) 25
  have sA : (w.alloc (.cells (gtL g p).toArray 25)).heap.size = w.heap.size + 1 := by simp
  generalize w.alloc (.cells (gtL g p).toArray 25) = A at *
  have R1 := range_alloc A (stL s) 27
  have hB : Below A.heap.size A (A.alloc (.cells (stL s).toArray 27)) := (Below.refl _ _).alloc (Nat.le_refl _) _
  have R0' := range_later R0 hB (by omega)
  have fz' : ∀ o, ((A.alloc (.cells (stL s).toArray 27)).alloc (.cells [v].toArray 28)).frozen? ⟨w.heap.size + 1, o, none⟩ = false := fz
  show RnW w g p s v ((A.alloc (.cells (stL s).toArray 27)).alloc (.cells [v].toArray 28))
  clear fz
  have sB : (A.alloc (.cells (stL s).toArray 27)).heap.size = w.heap.size + 1 + 1 := by simp [sA]
  generalize A.alloc (.cells (stL s).toArray 27) = B at *
  have R2 := range_alloc B [v] 28
  have hC : Below B.heap.size B (B.alloc (.cells [v].toArray 28)) := (Below.refl _ _).alloc (Nat.le_refl _) _
  rw [sA] at R1
  rw [sB] at R2
  exact ⟨bthenY (bthenY hA hB) hC, by simp [sB], range_later R0' hC (by omega), range_later R1 hC (by omega), R2, fz'⟩
set_option maxRecDepth 100000 in
set_option maxHeartbeats 8000000 in
theorem run_any (g : Gt) (p : GtP) (s : St) (ta : Option Addr) (ts : List Sp) (tc n : Nat) (w : World) (hn : ts.length = n) (hn8 : n ≤ 140737488355328) (hok : GtOk w p g) (hts : RowsL (fun _ s => spL s) 4 w ta ts) :
    Calls Tryz.prog 10 #[.agg (gtL g p).toArray, .agg #[.int .i64 s.pos, .int .i64 s.charge, .bool s.bolted], .slice ta n tc] w fun e w' => ∃ a c, e = .returned (.tuple #[.slice a (runL g s ts).length c, .int .i64 (runE g s ts)]) ∧ RowsL (fun _ s => stL s) 3 w' a (runL g s ts) ∧ Below w.heap.size w w' := by
  have HE := hid (show runE g s ts = (firstAt 0 [(0, gtE g), mustP (decide ((n : Int) ≤ 2000)) 0 3, (0, stE g s), eachP (fun i => ordE (ts.getD i default)) 0 n]).2.2 by unfold runE; rw [hn])
  obtain ⟨fE, hfE⟩ : ∃ f : Nat → Int, (fun i => ordE (ts.getD i default)) = f := ⟨_, rfl⟩
  rw [hfE] at HE
  have HfE := hid hfE
  clear hfE
  have HL := hid (show runL g s ts = if runE g s ts = 0 then scanF g s ts else [] from rfl)
  have HGd := hid (fun h => runE_ok (g := g) (s := s) (l := ts) h)
  have HOk := hid hok; have HTs := hid hts; have HLn := hid hn
  have H0 := RnW.start w g p s (.slice ta n tc)
  obtain ⟨i0, hi, hz0, hz1, hz2⟩ := info_parts Tryz.infoSt
  clear hok hts hn
  go_enter Tryz.func10, Tryz.ntmps10
  go_wp2_with fail
  generalize World.alloc (World.alloc (World.alloc w _) _) _ = W1 at *
  have hB1 : w.heap.size + 3 ≤ W1.heap.size := by have := H0.lt; omega
  have c2 := range_cell H0.vs (show [_][0]? = some (.slice ta n tc) from rfl)
  have H1 := hid H0
  clear H0
  have HC1 : Hid (Chk (w.heap.size + 3) W1 34 #[.pointer (some ⟨w.heap.size, 0, none⟩)] (0, gtE g)) :=
    hid ⟨callFunc_run1, fun W hW => run1_any _ g p W (HOk.out.later (H1.out.below.trans (hW.mono (by omega))) (Nat.le_refl _)) (range_later H1.out.rows hW (by omega))⟩
  have HC3 : Hid (Chk (w.heap.size + 3) W1 36 #[.pointer (some ⟨w.heap.size, 0, none⟩), .pointer (some ⟨w.heap.size + 1, 0, none⟩)] (0, stE g s)) :=
    hid ⟨callFunc_run2, fun W hW => run2_any _ _ g p s W (range_later H1.out.rows hW (by omega)) (range_later H1.out.ss hW (by omega))⟩
  have HI : Hid (ChkI (w.heap.size + 3) W1 39 #[.pointer (some ⟨w.heap.size + 1 + 1, 0, none⟩)] n fE) := by
    rw [← HfE.out]
    refine hid ⟨callFunc_run3, fun i hi W hW => ?_⟩
    obtain ⟨b, o, ea, hb, hat⟩ := HTs.out.row (by rw [HLn.out]; omega)
    have hWw := H1.out.below.trans (hW.mono (by omega))
    have hc := range_cell (range_later H1.out.vs hW (by omega)) (show [_][0]? = some (.slice ta n tc) from rfl)
    rw [ea] at hc
    exact run3_any _ b o tc i ts W (by rw [HLn.out]; exact hi) (by rw [HLn.out]; exact hc) (fun i h => range_later (hat i h) hWw hb)
  refine wp_region_noPanic ?_
  refine wp_region_held_drew (S := (fun w' => Below (w.heap.size + 3) W1 w' ∧ w'.cell? ⟨w.heap.size + 1 + 1, 0, none⟩ = some (.slice ta n tc))) (by kernel_rfl) ?_ (fun hHeld => ?_)
  · exact ⟨(Below.refl _ _).drew, by simpa using c2⟩
  refine wpAnyH_take (i := 0) (oi := { dst := _, op := _, type := _, pos := _, after := _, guard := _ }) (v := ?_) rfl (by kernel_rfl) (by kernel_rfl) (by kernel_rfl) (fun _ _ _ h => h) (Or.inl ⟨by rfl, ?_⟩) (by assumption) ?_
  rotate_left
  · intro wS hSw; (try dsimp only at hSw); go_simp; try (with_reducible rfl)
  try simp only [Act.put, List.setIfInBounds_toArray, List.set_cons_zero, List.set_cons_succ]
  refine wpAnyH_take (i := 1) (oi := { dst := _, op := _, type := _, pos := _, after := _, guard := _ }) (v := ?_) rfl (by kernel_rfl) (by kernel_rfl) (by kernel_rfl) (fun _ _ _ h => h) (Or.inl ⟨by rfl, ?_⟩) (by assumption) ?_
  rotate_left
  · intro wS hSw; (try dsimp only at hSw); go_simp; try (with_reducible rfl)
  try simp only [Act.put, List.setIfInBounds_toArray, List.set_cons_zero, List.set_cons_succ]
  refine wpAnyH_take (i := 2) (oi := { dst := _, op := _, type := _, pos := _, after := _, guard := _ }) (v := ?_) rfl (by kernel_rfl) (by kernel_rfl) (by kernel_rfl) (fun _ _ _ h => h) (Or.inl ⟨by rfl, ?_⟩) (by assumption) ?_
  rotate_left
  · intro wS hSw; (try dsimp only at hSw); go_simp; try (with_reducible rfl)
  try simp only [Act.put, List.setIfInBounds_toArray, List.set_cons_zero, List.set_cons_succ]
  refine wpAnyH_take (i := 3) (oi := { dst := _, op := _, type := _, pos := _, after := _, guard := _ }) (v := ?_) rfl (by kernel_rfl) (by kernel_rfl) (by kernel_rfl) (fun _ _ _ h => h) (Or.inl ⟨by rfl, ?_⟩) (by assumption) ?_
  rotate_left
  · intro wS hSw; (try dsimp only at hSw); go_simp; try (with_reducible rfl)
  try simp only [Act.put, List.setIfInBounds_toArray, List.set_cons_zero, List.set_cons_succ]
  refine wpAnyH_take (i := 5) (oi := { dst := _, op := _, type := _, pos := _, after := _, guard := _ }) (v := ?_) rfl (by kernel_rfl) (by kernel_rfl) (by kernel_rfl) (fun _ _ _ h => h) (Or.inl ⟨by rfl, ?_⟩) (by assumption) ?_
  rotate_left
  · intro wS hSw; (try dsimp only at hSw); go_simp; try (with_reducible rfl)
  try simp only [Act.put, List.setIfInBounds_toArray, List.set_cons_zero, List.set_cons_succ]
  refine wpAnyH_take (i := 6) (oi := { dst := _, op := _, type := _, pos := _, after := _, guard := _ }) (v := ?_) rfl (by kernel_rfl) (by kernel_rfl) (by kernel_rfl) (fun _ _ _ h => h) (Or.inl ⟨by rfl, ?_⟩) (by assumption) ?_
  rotate_left
  · intro wS hSw; (try dsimp only at hSw); go_simp; try (with_reducible rfl)
  try simp only [Act.put, List.setIfInBounds_toArray, List.set_cons_zero, List.set_cons_succ]
  refine wpAnyH_take (i := 7) (oi := { dst := _, op := _, type := _, pos := _, after := _, guard := _ }) (v := ?_) rfl (by kernel_rfl) (by kernel_rfl) (by kernel_rfl) (fun _ _ _ h => h) (Or.inl ⟨by rfl, ?_⟩) (by assumption) ?_
  rotate_left
  · intro wS hSw; (try dsimp only at hSw); go_simp; try (with_reducible rfl)
  try simp only [Act.put, List.setIfInBounds_toArray, List.set_cons_zero, List.set_cons_succ]
  refine wpAnyH_take (i := 8) (oi := { dst := _, op := _, type := _, pos := _, after := _, guard := _ }) (v := ?_) rfl (by kernel_rfl) (by kernel_rfl) (by kernel_rfl) (fun _ _ _ h => h) (Or.inl ⟨by rfl, ?_⟩) (by assumption) ?_
  rotate_left
  · intro wS hSw; (try dsimp only at hSw); go_simp; try (with_reducible rfl)
  try simp only [Act.put, List.setIfInBounds_toArray, List.set_cons_zero, List.set_cons_succ]
  refine wpAnyH_ready (rs := [4]) (by kernel_rfl) (by simp) ?_
  refine AllReadyH.cons (o := { dst := _, op := _, type := _, pos := _, after := _, guard := _ }) rfl (fun K hK => ?_) AllReadyH.nil
  go_simp
  (go_at_call 35; have bM := (by assumption : Below (w.heap.size + 3) W1 _ ∧ _).1; (with_reducible refine (must_any _ _ _ _).mono ?_); rintro e wM ⟨capsM, rfl, hbM, hchkM⟩)
  try go_wp2_with fail
  refine hK.out _ _ ?_ (fun hHeld => ?_)
  · (try dsimp only); first | assumption | exact keepO (by assumption) (by assumption) (by show w.heap.size + 1 + 1 < w.heap.size + 3; omega) hB1 | exact keepO ((Below.refl _ _).alloc (Nat.le_refl _) _) (by assumption) (by show w.heap.size + 1 + 1 < w.heap.size + 3; omega) hB1
  clear hK K
  try simp only [Act.put, List.setIfInBounds_toArray, List.set_cons_zero, List.set_cons_succ]
  refine wpAnyH_ready (rs := [9]) (by kernel_rfl) (by simp) ?_
  refine AllReadyH.cons (o := { dst := _, op := _, type := _, pos := _, after := _, guard := _ }) rfl (fun K hK => ?_) AllReadyH.nil
  go_simp
  (go_at_call 38; have bE := (by assumption : Below (w.heap.size + 3) W1 _ ∧ _).1; refine (each_any (w.heap.size + 3) W1 n fE _ _ _ hn8 (Nat.le_trans hB1 bE.size) bE HI.out).mono ?_; rintro e wE ⟨capsE, rfl, hbE, hchkE⟩)
  try go_wp2_with fail
  refine hK.out _ _ ?_ (fun hHeld => ?_)
  · (try dsimp only); first | assumption | exact keepO (by assumption) (by assumption) (by show w.heap.size + 1 + 1 < w.heap.size + 3; omega) hB1 | exact keepO ((Below.refl _ _).alloc (Nat.le_refl _) _) (by assumption) (by show w.heap.size + 1 + 1 < w.heap.size + 3; omega) hB1
  clear hK K
  try simp only [Act.put, List.setIfInBounds_toArray, List.set_cons_zero, List.set_cons_succ]
  refine wpAnyH_ready (rs := [10]) (by kernel_rfl) (by simp) ?_
  refine AllReadyH.cons (o := { dst := _, op := _, type := _, pos := _, after := _, guard := _ }) rfl (fun K hK => ?_) AllReadyH.nil
  go_simp
  refine hK.out _ _ ?_ (fun hHeld => ?_)
  · (try dsimp only); first | assumption | exact keepO (by assumption) (by assumption) (by show w.heap.size + 1 + 1 < w.heap.size + 3; omega) hB1 | exact keepO ((Below.refl _ _).alloc (Nat.le_refl _) _) (by assumption) (by show w.heap.size + 1 + 1 < w.heap.size + 3; omega) hB1
  clear hK K
  try simp only [Act.put, List.setIfInBounds_toArray, List.set_cons_zero, List.set_cons_succ]
  refine wpAnyH_ready (rs := [11]) (by kernel_rfl) (by simp) ?_
  refine AllReadyH.cons (o := { dst := _, op := _, type := _, pos := _, after := _, guard := _ }) rfl (fun K hK => ?_) AllReadyH.nil
  go_simp
  (go_at_call 33; have bF := bE.trans (hbE.mono (Nat.le_trans hB1 bE.size)); refine (first4_any _ ((HC1.out.later bF).mono (Nat.le_trans hB1 bF.size)) (hchkM.at hbE) ((HC3.out.later bF).mono (Nat.le_trans hB1 bF.size)) hchkE).mono ?_; rintro e wF ⟨rfl, hbF⟩)
  try go_wp2_with fail
  refine hK.out _ _ ?_ (fun hHeld => ?_)
  · (try dsimp only); first | assumption | exact keepO (by assumption) (by assumption) (by show w.heap.size + 1 + 1 < w.heap.size + 3; omega) hB1 | exact keepO ((Below.refl _ _).alloc (Nat.le_refl _) _) (by assumption) (by show w.heap.size + 1 + 1 < w.heap.size + 3; omega) hB1
  clear hK K
  try simp only [Act.put, List.setIfInBounds_toArray, List.set_cons_zero, List.set_cons_succ]
  refine wpAnyH_take (i := 12) (oi := { dst := _, op := _, type := _, pos := _, after := _, guard := _ }) (v := ?_) rfl (by kernel_rfl) (by kernel_rfl) (by kernel_rfl) (fun _ _ _ h => h) (Or.inl ⟨by rfl, ?_⟩) (by assumption) ?_
  rotate_left
  · intro wS hSw; (try dsimp only at hSw); go_simp; try (with_reducible rfl)
  try simp only [Act.put, List.setIfInBounds_toArray, List.set_cons_zero, List.set_cons_succ]
  refine wpAnyH_take (i := 13) (oi := { dst := _, op := _, type := _, pos := _, after := _, guard := _ }) (v := ?_) rfl (by kernel_rfl) (by kernel_rfl) (by kernel_rfl) (fun _ _ _ h => h) (Or.inl ⟨by rfl, ?_⟩) (by assumption) ?_
  rotate_left
  · intro wS hSw; (try dsimp only at hSw); go_simp; try (with_reducible rfl)
  try simp only [Act.put, List.setIfInBounds_toArray, List.set_cons_zero, List.set_cons_succ]
  refine wpAnyH_take (i := 14) (oi := { dst := _, op := _, type := _, pos := _, after := _, guard := _ }) (v := ?_) rfl (by kernel_rfl) (by kernel_rfl) (by kernel_rfl) (fun _ _ _ h => h) (Or.inl ⟨by rfl, ?_⟩) (by assumption) ?_
  rotate_left
  · intro wS hSw; (try dsimp only at hSw); go_simp; try (with_reducible rfl)
  try simp only [Act.put, List.setIfInBounds_toArray, List.set_cons_zero, List.set_cons_succ]
  refine wpAnyH_take (i := 15) (oi := { dst := _, op := _, type := _, pos := _, after := _, guard := _ }) (v := ?_) rfl (by kernel_rfl) (by kernel_rfl) (by kernel_rfl) (fun _ _ _ h => h) (Or.inl ⟨by rfl, ?_⟩) (by assumption) ?_
  rotate_left
  · intro wS hSw; (try dsimp only at hSw); go_simp; try (with_reducible rfl)
  try simp only [Act.put, List.setIfInBounds_toArray, List.set_cons_zero, List.set_cons_succ]
  refine wpAnyH_take (i := 16) (oi := { dst := _, op := _, type := _, pos := _, after := _, guard := _ }) (v := ?_) rfl (by kernel_rfl) (by kernel_rfl) (by kernel_rfl) (fun _ _ _ h => h) (Or.inl ⟨by rfl, ?_⟩) (by assumption) ?_
  rotate_left
  · intro wS hSw; (try dsimp only at hSw); go_simp; try (with_reducible rfl)
  try simp only [Act.put, List.setIfInBounds_toArray, List.set_cons_zero, List.set_cons_succ]
  refine wpAnyH_take (i := 17) (oi := { dst := _, op := _, type := _, pos := _, after := _, guard := _ }) (v := ?_) rfl (by kernel_rfl) (by kernel_rfl) (by kernel_rfl) (fun _ _ _ h => h) (Or.inl ⟨by rfl, ?_⟩) (by assumption) ?_
  rotate_left
  · intro wS hSw; (try dsimp only at hSw); go_simp; try (with_reducible rfl)
  try simp only [Act.put, List.setIfInBounds_toArray, List.set_cons_zero, List.set_cons_succ]
  refine wpAnyH_take (i := 18) (oi := { dst := _, op := _, type := _, pos := _, after := _, guard := _ }) (v := ?_) rfl (by kernel_rfl) (by kernel_rfl) (by kernel_rfl) (fun _ _ _ h => h) (Or.inl ⟨by rfl, ?_⟩) (by assumption) ?_
  rotate_left
  · intro wS hSw; (try dsimp only at hSw); go_simp; try (with_reducible rfl)
  try simp only [Act.put, List.setIfInBounds_toArray, List.set_cons_zero, List.set_cons_succ]
  refine wpAnyH_done (by kernel_rfl) ?_ _
  refine NoPanic.normal ?_
  have bF2 := bF.trans (((Below.refl _ _).alloc (Nat.le_refl _) _ |>.trans (hbF.mono (by simp))).mono (Nat.le_trans hB1 bF.size))
  clear hHeld hchkM hchkE HC1 HC3 HI c2
  obtain ⟨r, hr⟩ : ∃ r, firstAt 0 [(0, gtE g), mustP (decide ((n : Int) ≤ 2000)) 0 3, (0, stE g s), eachP fE 0 n] = r := ⟨_, rfl⟩
  have HRr := hid hr
  simp only [hr]
  clear hr
  have HF := hid (H1.out.laterB bF2 (by omega))
  have HEr := hid HE.out
  rw [show (firstAt 0 [(0, gtE g), mustP (decide ((n : Int) ≤ 2000)) 0 3, (0, stE g s), eachP fE 0 n]) = r from HRr.out] at HEr
  clear HE
  by_cases hr : r.2.2 = 0
  · have q : (r.2.2 != 0) = false := by simp [hr]
    have hz : runE g s ts = 0 := HEr.out.trans hr
    have HZ := hid hz
    obtain ⟨g0, gn, gs, go⟩ := HGd.out hz
    have HG := hid (gtGood g0)
    have HS := hid (stGood gs)
    have HO := hid go
    rw [HLn.out] at gn
    clear hr hz g0 gs go HGd HRr
    have cv := range_cell HF.out.vs (show [_][0]? = some (.slice ta n tc) from rfl)
    go_wp2_with fail
    clear cv
    obtain ⟨X, hX⟩ : ∃ X, wF.heap.size = X := ⟨_, rfl⟩
    have lX : w.heap.size + 1 + 1 < X := by rw [← hX]; exact HF.out.lt
    go_loopw [11, 13, 35] (fun v _ j wr => ∃ k : Nat, k ≤ n ∧ j = .int .i64 k ∧ Hid (wr.ownsRow X 27 3 v k ((scanF g s (ts.take k)).flatMap stL)) ∧ Hid (RnW w g p (lastF g s (ts.take k)) (.slice ta n tc) wr) ∧ X ≤ wr.heap.size) (fun _ _ j _ => n - (intOf j).toNat)
    case atStart => exact ⟨0, Nat.zero_le _, rfl, hid (by rw [List.take_zero]; exact World.ownsRow_nil _ _ _ _), hid (by rw [List.take_zero]; exact HF.out), by omega⟩
    case round =>
      obtain ⟨k, hk, rfl, hown, HW, hXr⟩ := hrel
      by_cases hlt : k < n
      · obtain ⟨b, o, rfl, hb, hat⟩ := HTs.out.row (by rw [HLn.out]; omega)
        have hkl : k < ts.length := by rw [HLn.out]; exact hlt
        have Rt := range_later (hat k hkl) HW.out.below hb
        have HSc := hid (scan_take (g := g) (s := s) hkl)
        have HLs := hid (last_take (g := g) (s := s) hkl)
        have HSg := hid (last_good HG.out (ts.take k) HS.out)
        have HTg := hid (spGood (HO.out k hkl))
        rw [show ts.getD k default = ts[k] by simp [List.getD, hkl]] at HSc HLs HTg
        generalize ts[k] = t at *
        generalize lastF g s (ts.take k) = st at *
        have t0 : wr.cell? ⟨b, o + k * 4, none⟩ = some (.int .i64 t.order) := by simpa using Rt 0 _ (show (spL t)[0]? = some (.int .i64 t.order) from rfl)
        have t1 : wr.cell? ⟨b, o + k * 4 + 1, none⟩ = some (.bool t.power) := Rt 1 _ rfl
        have t2 : wr.cell? ⟨b, o + k * 4 + 2, none⟩ = some (.int .i64 t.outer) := Rt 2 _ rfl
        have t3 : wr.cell? ⟨b, o + k * 4 + 3, none⟩ = some (.int .i64 t.inner) := Rt 3 _ rfl
        have hiI : (k : Int) < (n : Int) := by omega
        have hi0 : (0 : Int) ≤ (k : Int) := Int.natCast_nonneg _
        have s0 := range_cell HW.out.ss (show (stL st)[0]? = some (.int .i64 st.pos) from rfl)
        have s1 := range_cell HW.out.ss (show (stL st)[1]? = some (.int .i64 st.charge) from rfl)
        have s2 := range_cell HW.out.ss (show (stL st)[2]? = some (.bool st.bolted) from rfl)
        have lw := HW.out.lt
        have lwa : w.heap.size + 1 < wr.heap.size := by omega
        have lwb : w.heap.size < wr.heap.size := by omega
        have lwc : b < wr.heap.size := by have := HW.out.below.size; omega
        have HSt := hid (fun W (hW : Below w.heap.size w W) => step_any g p st t 0 W HG.out HSg.out HTg.out (HOk.out.own.later hW (Nat.le_refl _)))
        generalize stepF g st t 0 = u at *
        clear Rt hat HTs
        go_wp2_with (first | (refine wpList_load_mid rfl 25 _ rfl _ 0 rfl (gtL g p) _ (HW.out.later ((Below.refl _ _).alloc (Nat.le_refl _) _)).rows Tryz.underlying25 rfl (by kernel_rfl) ?_) | (apply wpList_builtC (hb := built_machine g p st t); exact rfl; exact rfl; kernel_rfl))
        refine (HSt.out _ (bthenY HW.out.below ((Below.refl _ _).alloc (Nat.le_refl _) _))).mono ?_
        rintro e w3 ⟨rfl, hb3⟩
        obtain ⟨-, -, b13⟩ := one_boxY (cs := spL t) hb3
        have HW3 := hid (HW.out.later b13)
        have hs3 := b13.size
        have HO3 := hid (ownsRow_below hown.out b13)
        clear s0 s1 s2 t0 t1 t2 t3 hb3 b13 lw lwa lwb lwc HW
        have s0 := range_cell HW3.out.ss (show (stL st)[0]? = some (.int .i64 st.pos) from rfl)
        have s1 := range_cell HW3.out.ss (show (stL st)[1]? = some (.int .i64 st.charge) from rfl)
        have s2 := range_cell HW3.out.ss (show (stL st)[2]? = some (.bool st.bolted) from rfl)
        have fr3 := HW3.out.fr
        have lw := HW3.out.lt
        have lwa : w.heap.size + 1 < w3.heap.size := by omega
        have hne := ownsRow_lt HO3.out (b := w.heap.size + 1) (.inl (by omega))
        have hO4 := ownsRow_set (ownsRow_set (ownsRow_set HO3.out ⟨w.heap.size + 1, 0, none⟩ (.int .i64 u.1.pos) hne) ⟨w.heap.size + 1, 1, none⟩ (.int .i64 u.1.charge) hne) ⟨w.heap.size + 1, 2, none⟩ (.bool u.1.bolted) hne
        have HW4 := hid (HW3.out.set u.1)
        have hO4' := hid hO4
        clear hO4 hne hown HO3
        go_wp2_with (at_builtin; refine wpList_append_own _ rfl _ _ 36 rfl X 27 i0 (.agg #[.int .i64 0, .int .i64 0, .bool false]) 3 24 Tryz.underlying36 hi hz0 hz1 hz2 rfl (by decide) _ _ _ rfl (hO4'.out.alloc _) ⟨w3.heap.size, 0, none⟩ 1 1 [.int .i64 u.1.pos, .int .i64 u.1.charge, .bool u.1.bolted] rfl rfl (by intro j x hj; match j, hj with | 0, hj => simp at hj; subst hj; simp [Addr.add, go_sem] | 1, hj => simp at hj; subst hj; simp [Addr.add, go_sem] | 2, hj => simp at hj; subst hj; simp [Addr.add, go_sem]) (by intro x hx; simp at hx; rcases hx with rfl | rfl | rfl <;> rfl) (by unfold maxLen; omega) (by omega) (by simp; omega) ?_)
        intro v' w4 hown' hgrow _
        have HW5 := hid ((HW4.out.later ((Below.refl _ _).alloc (Nat.le_refl _) _)).laterB (below_own (hO4'.out.alloc _) (Nat.le_refl _) (by simp; omega) hgrow) lX)
        have hs5 : X ≤ w4.heap.size := by
          have := hgrow.size
          simp at this
          omega
        have HO := hid (show w4.ownsRow X 27 3 v' (k + 1) ((scanF g s (ts.take (k + 1))).flatMap stL) by rw [HSc.out, List.flatMap_append]; exact hown')
        rw [← HLs.out] at HW5
        clear hown' hO4' hgrow HW4 s0 s1 s2 fr3 lw lwa
        go_wp2_with fail
        refine ⟨⟨k + 1, by omega, by go_num, HO, HW5, hs5⟩, by simp [intOf]; omega⟩
      · obtain rfl : k = n := by omega
        have e : ts.take k = ts := List.take_of_length_le (by rw [HLn.out]; exact Nat.le_refl _)
        have hl : (scanF g s ts).length = k := by rw [scan_len, HLn.out]
        rw [e] at hown
        obtain ⟨a, c, hv, hrows⟩ := rows_of_own (L := stL) (size := 3) (fun _ => rfl) (l := scanF g s ts) (by rw [hl]; exact hown.out)
        rw [hl] at hv
        subst hv
        have HRw := hid hrows
        have HLe := hid hl
        clear hrows hl e hown
        go_wp2_with fail
        refine bodyPost_ret (v := .tuple #[.slice a k c, .int .i64 0]) (by simp [results, Tryz.results10, go_sem]) rfl ⟨a, c, ?_, ?_, HW.out.below⟩
        · rw [HL.out, if_pos HZ.out, HLe.out, HZ.out]
        · rw [HL.out, if_pos HZ.out]; exact HRw.out
  · have q : (r.2.2 != 0) = true := by simp [hr]
    have HR := hid hr
    clear hr
    go_wp2_with fail
    refine bodyPost_ret (v := .tuple #[.slice none 0 0, .int .i64 r.2.2]) (by simp [results, Tryz.results10, go_sem]) rfl ⟨none, 0, ?_, .inl ?_, HF.out.below⟩
    · rw [HL.out, HEr.out, if_neg HR.out]; rfl
    · rw [HL.out, HEr.out, if_neg HR.out]
end Go.Proofs.YtdoklolinbmhpaaGreat
