/- Gate, part YA: Time. -/
import Derived.Test.YtdoklolinbmhpaaGreatWZ
import Derived.Test.YtdoklolinbmhpaaGreatWP
import Derived.Test.YtdoklolinbmhpaaGreatWN
set_option linter.all false
namespace Go.Proofs.YtdoklolinbmhpaaGreat
open Go.RowKit

theorem wpList_bsl {P : Program} {ops : Array Oper} {rest : List Oper} {o : Oper} {a : Act} {w w' : World} {Q : Exit → Act → World → Prop} {v : Value} {vs : Array (Nat × Value)} {t : TypeId} {len : Nat} {parts : Array (Nat × Operand)} (hr : (Instr.buildSlice t len vs).run P w = .ok v w') (hg : o.guard = none) (ho : o.op = .buildSlice t len parts) (hvs : (parts.map fun (i, x) => (i, a.eval x)) = vs)
    (h : wpList P ops Q rest (a.put o.dst v) w') : wpList P ops Q (o :: rest) a w :=
  wpList_plain hg fun _ hK => wp_buildTwo hr ho hvs (hK _ _ h)
theorem run_oneG (W : World) (g : Gt) (p : GtP) : (Instr.buildSlice 57 1 #[(0, .agg (gtL g p).toArray)]).run Tryz.prog W = .ok (.slice (some ⟨W.heap.size, 0, none⟩) 1 1) (W.alloc (.cells (gtL g p).toArray 25)) := by
  obtain ⟨ie, hie, hz, hs, _⟩ := info_parts Tryz.infoGt
  refine run_buildSlice W _ _ 1 _ _ ie _ Tryz.underlying57 hie hz (by rw [hs]; decide) (by rw [hs]; decide) ?_
  rw [hs]; kernel_rfl
theorem run_oneS (W : World) (s : St) : (Instr.buildSlice 36 1 #[(0, .agg #[.int .i64 s.pos, .int .i64 s.charge, .bool s.bolted])]).run Tryz.prog W = .ok (.slice (some ⟨W.heap.size, 0, none⟩) 1 1) (W.alloc (.cells (stL s).toArray 27)) := by
  obtain ⟨ie, hie, hz, hs, _⟩ := info_parts Tryz.infoSt
  refine run_buildSlice W _ _ 1 _ _ ie _ Tryz.underlying36 hie hz (by rw [hs]; decide) (by rw [hs]; decide) ?_
  rw [hs]; kernel_rfl
theorem run_oneP (W : World) (t : Sp) : (Instr.buildSlice 28 1 #[(0, .agg #[.int .i64 t.order, .bool t.power, .int .i64 t.outer, .int .i64 t.inner])]).run Tryz.prog W = .ok (.slice (some ⟨W.heap.size, 0, none⟩) 1 1) (W.alloc (.cells (spL t).toArray 35)) := by
  obtain ⟨ie, hie, hz, hs, _⟩ := info_parts Tryz.infoSp
  refine run_buildSlice W _ _ 1 _ _ ie _ Tryz.underlying28 hie hz (by rw [hs]; decide) (by rw [hs]; decide) ?_
  rw [hs]; kernel_rfl
theorem Tryz.infoBo : (Tryz.prog.info? 4).map (fun i => (i.zero, i.size, i.bytes)) = some (some (.bool false), 1, 1) := by kernel_rfl
theorem run_oneB (W : World) : (Instr.buildSlice 61 1 #[(0, .bool false)]).run Tryz.prog W = .ok (.slice (some ⟨W.heap.size, 0, none⟩) 1 1) (W.alloc (.cells [.bool false].toArray 4)) := by
  obtain ⟨ie, hie, hz, hs, _⟩ := info_parts Tryz.infoBo
  refine run_buildSlice W _ _ 1 _ _ ie _ Tryz.underlying61 hie hz (by rw [hs]; decide) (by rw [hs]; decide) ?_
  rw [hs]; kernel_rfl
theorem rows_one {α : Type} {L : Nat → α → List Value} {size b : Nat} {w : World} {x : α} (hb : b < w.heap.size) (h : w.rangeAt b 0 (L 0 x)) : RowsL L size w (some ⟨b, 0, none⟩) [x] :=
  .inr ⟨b, 0, rfl, hb, fun i hi => by
    have h0 : i = 0 := by simpa using hi
    subst h0; simpa using h⟩
theorem setGood_one {g : Gt} (hg : GtGood g) : SetGood [g] [] :=
  ⟨⟨Nat.le_refl 1, (by decide : 1 ≤ 6)⟩, fun i hi => by
    have h0 : i = 0 := by simpa using hi
    subst h0; exact hg, Nat.zero_le _, fun i hi => absurd hi (Nat.not_lt_zero i)⟩
theorem one_boxY {w x : World} {cs : List Value} {T : TypeId} (hb : Below (w.alloc (.cells cs.toArray T)).heap.size (w.alloc (.cells cs.toArray T)) x) : x.rangeAt w.heap.size 0 cs ∧ w.heap.size < x.heap.size ∧ Below w.heap.size w x := by
  have hA : Below w.heap.size w (w.alloc (.cells cs.toArray T)) := (Below.refl _ _).alloc (Nat.le_refl _) _
  have R := range_alloc w cs T
  have hs : w.heap.size < (w.alloc (.cells cs.toArray T)).heap.size := by simp
  exact ⟨range_later R hb hs, Nat.lt_of_lt_of_le hs hb.size, hA.trans (hb.mono hA.size)⟩
/-- The four lists that Time builds. -/
theorem bthenY {w x y : World} (h : Below w.heap.size w x) (k : Below x.heap.size x y) : Below w.heap.size w y := h.trans (k.mono h.size)
theorem four_boxes {w : World} {cs ds es fs : List Value} {T S R Q : TypeId} : let x := (((w.alloc (.cells cs.toArray T)).alloc (.cells ds.toArray S)).alloc (.cells es.toArray R)).alloc (.cells fs.toArray Q)
    x.rangeAt w.heap.size 0 cs ∧ x.rangeAt (w.heap.size + 1) 0 ds ∧ x.rangeAt (w.heap.size + 1 + 1) 0 es ∧ x.rangeAt (w.heap.size + 1 + 1 + 1) 0 fs ∧ w.heap.size + 1 + 1 + 1 < x.heap.size ∧ Below w.heap.size w x := by
  have hA : Below w.heap.size w (w.alloc (.cells cs.toArray T)) := (Below.refl _ _).alloc (Nat.le_refl _) _
  have RA := range_alloc w cs T
  have sA : (w.alloc (.cells cs.toArray T)).heap.size = w.heap.size + 1 := by simp
  generalize w.alloc (.cells cs.toArray T) = A at *
  have hB : Below A.heap.size A (A.alloc (.cells ds.toArray S)) := (Below.refl _ _).alloc (Nat.le_refl _) _
  have RB := range_alloc A ds S
  have sB : (A.alloc (.cells ds.toArray S)).heap.size = w.heap.size + 1 + 1 := by simp [sA]
  generalize A.alloc (.cells ds.toArray S) = B at *
  have hC : Below B.heap.size B (B.alloc (.cells es.toArray R)) := (Below.refl _ _).alloc (Nat.le_refl _) _
  have RC := range_alloc B es R
  have sC : (B.alloc (.cells es.toArray R)).heap.size = w.heap.size + 1 + 1 + 1 := by simp [sB]
  generalize B.alloc (.cells es.toArray R) = C at *
  have hD : Below C.heap.size C (C.alloc (.cells fs.toArray Q)) := (Below.refl _ _).alloc (Nat.le_refl _) _
  have RD := range_alloc C fs Q
  have sD : (C.alloc (.cells fs.toArray Q)).heap.size = w.heap.size + 1 + 1 + 1 + 1 := by simp [sC]
  generalize C.alloc (.cells fs.toArray Q) = D at *
  rw [sA] at RB
  rw [sB] at RC
  rw [sC] at RD
  have hBC := bthenY hB hC
  have hBD := bthenY hBC hD
  have hCD := bthenY hC hD
  exact ⟨range_later RA hBD (by omega), range_later RB hCD (by omega), range_later RC hD (by omega), RD, by omega, bthenY hA hBD⟩

/-- Time's two boxes in memory. -/
structure TmW (w : World) (g : Gt) (p : GtP) (s : St) (x : World) : Prop where
  below : Below w.heap.size w x
  lt : w.heap.size + 1 < x.heap.size
  rows : x.rangeAt w.heap.size 0 (gtL g p)
  ss : x.rangeAt (w.heap.size + 1) 0 (stL s)
theorem TmW.later {w x y : World} {g : Gt} {p : GtP} {s : St} (h : TmW w g p s x) (hb : Below x.heap.size x y) : TmW w g p s y := by
  have hl := h.lt
  exact ⟨bthenY h.below hb, Nat.lt_of_lt_of_le hl hb.size, range_later h.rows hb (by omega), range_later h.ss hb (by omega)⟩
theorem TmW.start (w : World) (g : Gt) (p : GtP) (s : St) : TmW w g p s ((w.alloc (.cells (gtL g p).toArray 25)).alloc (.cells #[.int .i64 s.pos, .int .i64 s.charge, .bool s.bolted] 27)) := by
  have hA : Below w.heap.size w (w.alloc (.cells (gtL g p).toArray 25)) := (Below.refl _ _).alloc (Nat.le_refl _) _
  have R0 := range_alloc w (gtL g p) 25
  have sA : (w.alloc (.cells (gtL g p).toArray 25)).heap.size = w.heap.size + 1 := by simp
  generalize w.alloc (.cells (gtL g p).toArray 25) = A at *
  have R1 := range_alloc A (stL s) 27
  have hB : Below A.heap.size A (A.alloc (.cells (stL s).toArray 27)) := (Below.refl _ _).alloc (Nat.le_refl _) _
  rw [sA] at R1
  exact ⟨bthenY hA hB, by simp [sA], range_later R0 hB (by omega), R1⟩
set_option maxRecDepth 100000 in
set_option maxHeartbeats 4000000 in
theorem time_any (g : Gt) (p : GtP) (s : St) (o i : Int) (pw : Bool) (w : World) (hok : GtOk w p g) :
    Calls Tryz.prog 14 #[.agg (gtL g p).toArray, .agg #[.int .i64 s.pos, .int .i64 s.charge, .bool s.bolted], .int .i64 o, .int .i64 i, .bool pw] w fun e w' => e = .returned (.tuple #[.int .i64 (timeP g s o i pw).1, .int .i64 (timeP g s o i pw).2]) ∧ Below w.heap.size w w' := by
  have HE := hid (show timeP g s o i pw = if gtE g ≠ 0 then (0, gtE g) else if spE g s (toCloseT o i pw) ≠ 0 then (0, spE g s (toCloseT o i pw)) else searchF [g] [] [toCloseT o i pw] [false] 0 2000 [s] from rfl)
  have HOk := hid hok
  clear hok
  have HGd := hid (fun h => gtGood (g := g) h)
  have HSd := hid (fun h => spGoods (g := g) (s := s) (t := toCloseT o i pw) h)
  have H0 := hid (TmW.start w g p s)
  have R1 := H0.out.rows
  go_enter Tryz.func14, Tryz.ntmps14
  go_wp2_with (refine wpList_load_mid rfl 25 _ rfl _ 0 rfl (gtL g p) _ (R1) Tryz.underlying25 rfl (by kernel_rfl) ?_)
  refine (gateError_any g p _ (HOk.out.later H0.out.below (Nat.le_refl _))).mono ?_
  rintro e w1 ⟨rfl, hb⟩
  have H1 := hid (H0.out.later hb)
  clear R1 H0 hb
  generalize gtE g = x0 at *
  by_cases hx : x0 = 0
  · have q : (x0 != 0) = false := by simp [hx]
    have HX := hid hx
    clear hx
    go_wp2_with fail
    refine (toClose_any o i pw _).mono ?_
    rintro e w2 ⟨rfl, hb⟩
    have H2 := hid (H1.out.later hb)
    have l2 := H2.out.lt
    have l2a : w.heap.size < w2.heap.size := by omega
    have s0 := range_cell H2.out.ss (show (stL s)[0]? = some (.int .i64 s.pos) from rfl)
    have s1 := range_cell H2.out.ss (show (stL s)[1]? = some (.int .i64 s.charge) from rfl)
    have s2 := range_cell H2.out.ss (show (stL s)[2]? = some (.bool s.bolted) from rfl)
    clear H1 hb
    go_wp2_with (refine wpList_load_mid rfl 25 _ rfl _ 0 rfl (gtL g p) _ ((H2.out.later ((Below.refl _ _).alloc (Nat.le_refl _) _)).rows) Tryz.underlying25 rfl (by kernel_rfl) ?_)
    refine (stepError_any g p s (toCloseT o i pw) _).mono ?_
    rintro e w3 ⟨rfl, hb⟩
    obtain ⟨rt, l3, b23⟩ := one_boxY (cs := spL (toCloseT o i pw)) hb
    have H3 := hid (H2.out.later b23)
    clear s0 s1 s2 H2 hb l2a
    generalize spE g s (toCloseT o i pw) = y0 at *
    by_cases hy : y0 = 0
    · have q2 : (y0 != 0) = false := by simp [hy]
      have HY := hid hy
      clear hy
      have HR := hid (HE.out.trans ((if_neg (by simp [HX.out])).trans (if_neg (by simp [HY.out]))))
      obtain ⟨t, ht⟩ : ∃ t, toCloseT o i pw = t := ⟨_, rfl⟩
      have t0 := range_cell rt (show (spL (toCloseT o i pw))[0]? = some (.int .i64 1) from rfl)
      have t1 := range_cell rt (show (spL (toCloseT o i pw))[1]? = some (.bool pw) from rfl)
      have t2 := range_cell rt (show (spL (toCloseT o i pw))[2]? = some (.int .i64 o) from rfl)
      have t3 := range_cell rt (show (spL (toCloseT o i pw))[3]? = some (.int .i64 i) from rfl)
      have l3b := H3.out.lt
      have l3a : w.heap.size < w3.heap.size := by omega
      have s0 := range_cell H3.out.ss (show (stL s)[0]? = some (.int .i64 s.pos) from rfl)
      have s1 := range_cell H3.out.ss (show (stL s)[1]? = some (.int .i64 s.charge) from rfl)
      have s2 := range_cell H3.out.ss (show (stL s)[2]? = some (.bool s.bolted) from rfl)
      have HS := hid (fun W (hB : Below w.heap.size w W) (A B C D : Nat) (r : (W.rangeAt A 0 (gtL g p) ∧ W.rangeAt B 0 (stL s) ∧ W.rangeAt C 0 (spL (toCloseT o i pw)) ∧ W.rangeAt D 0 [.bool false]) ∧ A < W.heap.size ∧ B < W.heap.size ∧ C < W.heap.size ∧ D < W.heap.size) => stepsToShut_any (some ⟨A, 0, none⟩) (some ⟨B, 0, none⟩) (some ⟨C, 0, none⟩) (some ⟨D, 0, none⟩) none [g] [] [s] [toCloseT o i pw] [false] 1 1 1 1 0 1 (fun _ => p) W rfl (rows_one r.2.1 r.1.1) (fun i hi => by
        have h0 : i = 0 := by simpa using hi
        subst h0; exact HOk.out.later hB (Nat.le_refl _)) (.inl rfl) (rows_one r.2.2.1 r.1.2.1) (rows_one r.2.2.2.1 r.1.2.2.1) (rows_one (L := fun _ b => [.bool b]) r.2.2.2.2 r.1.2.2.2) rfl rfl rfl (setGood_one (HGd.out HX.out)) (fun i hi => by
        have h0 : i = 0 := by omega
        subst h0; exact (HSd.out HY.out).1) (fun i hi => by
        have h0 : i = 0 := by omega
        subst h0; exact (HSd.out HY.out).2))
      clear ht t l2 HGd HSd
      generalize searchF [g] [] [toCloseT o i pw] [false] 0 2000 [s] = r at *
      generalize w2.heap.size = tb at *
      go_wp2_with (first | (refine wpList_load_mid rfl 25 _ rfl _ 0 rfl (gtL g p) _ (H3.out.rows) Tryz.underlying25 rfl (by kernel_rfl) ?_) | (apply wpList_bsl (hr := run_oneG _ g p); exact rfl; exact rfl; kernel_rfl) | (apply wpList_bsl (hr := run_oneS _ s); exact rfl; exact rfl; kernel_rfl) | (apply wpList_bsl (hr := run_oneP _ (toCloseT o i pw)); exact rfl; exact rfl; kernel_rfl) | (apply wpList_bsl (hr := run_oneB _); exact rfl; exact rfl; kernel_rfl))
      obtain ⟨r0, r1, r2, r3, lr, bx⟩ := four_boxes (w := w3) (cs := gtL g p) (ds := stL s) (es := spL (toCloseT o i pw)) (fs := [.bool false]) (T := 25) (S := 27) (R := 35) (Q := 4)
      refine (HS.out _ (bthenY H3.out.below bx) _ _ _ _ ⟨⟨r0, r1, r2, r3⟩, by omega, by omega, by omega, lr⟩).mono ?_
      rintro e w4 ⟨rfl, hb4⟩
      clear r0 r1 r2 r3 s0 s1 s2 t0 t1 t2 t3
      go_wp2_with fail
      go_ret2
      exact ⟨ret_two (by rw [HR.out]) (by rw [HR.out]), bthenY (bthenY H3.out.below bx) hb4⟩
    · have q2 : (y0 != 0) = true := by simp [hy]
      have HY := hid hy
      clear hy
      go_wp2_with fail
      go_ret2
      exact ⟨ret_two (by rw [HE.out, if_neg (by simp [HX.out]), if_pos HY.out]) (by rw [HE.out, if_neg (by simp [HX.out]), if_pos HY.out]), H3.out.below⟩
  · have q : (x0 != 0) = true := by simp [hx]
    have HX := hid hx
    clear hx
    go_wp2_with fail
    go_ret2
    exact ⟨ret_two (by rw [HE.out, if_pos HX.out]) (by rw [HE.out, if_pos HX.out]), H1.out.below⟩
end Go.Proofs.YtdoklolinbmhpaaGreat
