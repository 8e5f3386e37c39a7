/- Gate, part YE: Where. -/
import Derived.Test.YtpgggffcpcjahaaYD
set_option linter.all false
namespace Go.Proofs.Ytpgggffcpcjahaa
open Go.RowKit Go.Shelf Go.Sort
attribute [local go_sem] Oper.semAt_some

theorem wpListIn_load_mid {n : Nat} {P : Program} {ops : Array Oper} {rest : List Oper} {op : Oper} {a : Act} {w : World} {Q : Exit → Act → World → Prop} (hgd : op.guard = none) (ty : TypeId) (x : Operand) (ho : op.op = .load ty x)
    (b o : Nat) (hx : a.eval x = .pointer (some ⟨b, o, none⟩)) (cs : List Value) (d : TypeDesc) (hc : w.rangeAt b o cs)
    (hu : P.underlying ty = some d) (hd : d.isRow = true) (hi : (P.info? ty).map (·.size) = some cs.length)
    (h : wpListIn Fence.wide n P ops Q rest (a.put op.dst (.agg cs.toArray)) w) : wpListIn Fence.wide n P ops Q (op :: rest) a w :=
  wpListIn_plain hgd fun K hK => by
    refine ⟨fun f hf => trivial, ?_⟩
    have e : (op.semAt Fence.wide.round a.eval).run P w = .ok (.value (.agg cs.toArray)) w := by
      show (op.semAt none a.eval).run P w = _
      simp only [Oper.semAt, execOp, ho, hx, Instr.loadAt, Instr.sureAddr, Sem.run_bind, Sem.run_pure, Result.andThen_ok, run_loadVar_mid w b o ty cs d hc hu hd hi]
    rw [e]
    exact hK _ _ h
/-- The list that agreed's function value hands on. -/
theorem ag_stops (n : Nat) (hn : 1 ≤ n) (n₀ mc N : Nat) (g : Gt) (p : GtP) (ra : Option Addr) (rs : List Int) (hg : GtGood g) (hN : (N : Int) = g.travel + 1) (hrl : rs.length = g.ss.length) (w : World)
    (h0 : w.rangeAt (n₀ + 1) 0 (gtL g p)) (h1 : w.cell? ⟨n₀ + 2, 0, none⟩ = some (.slice ra rs.length mc)) (hn₀ : n₀ + 3 ≤ w.heap.size)
    (w0 : World) (hw0 : w0.heap.size ≤ n₀) (hwW : Below w0.heap.size w0 w) (hss : SensAt w0 p.sa g.ss) (hra : IntsAt w0 ra rs) :
    SeqStopsK Fence.wide n Try.prog 107 #[.pointer (some ⟨n₀ + 1, 0, none⟩), .pointer (some ⟨n₀ + 2, 0, none⟩)] encPos (KeepF n₀) (fun ys => ys = posL g rs N) (fun _ => True) N w := fun l J Jx W hW hJ _ hY hj0 =>
  ag1_in n hn l n₀ mc N g p ra rs hg hN hrl J Jx (fun s W1 W2 hs hb => hJ s W1 W2 none hs (grown_of_below (row := none) (hb.mono (Nat.le_refl _))) (fun r e => by cases e)) hY W
    (range_later h0 hW (by omega)) ((hW.cell (p := ⟨n₀ + 2, 0, none⟩) (by show n₀ + 2 < _; omega)).trans h1) (Nat.le_trans hn₀ hW.size)
    w0 hw0 (hwW.trans (hW.mono (by omega))) hss hra hj0
theorem heap_set0 {W : World} {b : Nat} {c d v : Value} {T : TypeId} (h : W.heap[b]? = some (.cells #[c, d] T (0, 0))) : (W.setCell ⟨b, 0, none⟩ v).heap[b]? = some (.cells #[v, d] T (0, 0)) := by
  simp [World.setCell, Array.getElem?_modify, h]
theorem heap_set1 {W : World} {b : Nat} {c d v : Value} {T : TypeId} (h : W.heap[b]? = some (.cells #[c, d] T (0, 0))) : (W.setCell ⟨b, 1, none⟩ v).heap[b]? = some (.cells #[c, v] T (0, 0)) := by
  simp [World.setCell, Array.getElem?_modify, h]
theorem KeepF.set (n₀ o : Nat) (W : World) (v : Value) : KeepF n₀ W (W.setCell ⟨n₀, o, none⟩ v) := ⟨(Below.refl n₀ W).setCell (p := ⟨n₀, o, none⟩) (Nat.le_refl _) v, fun i h1 _ => Below.heap_setCell _ _ _ _ (by show i ≠ n₀; omega)⟩
theorem bcells_own {β : Type} (B : Nat) (t : TypeId) (f : β → Array Value) : Own (fun s W => W.heap[B]? = some (.cells (f s) t (0, 0))) := fun s X Y row hs hg hrow => by
  refine (hg.block B (Array.getElem?_eq_some_iff.1 hs).1 (fun e => ?_)).trans hs
  obtain ⟨o, ho, hc⟩ := hrow B e.symm
  rw [hs] at ho; cases ho; simp [Obj.isCells] at hc
set_option maxRecDepth 100000 in
set_option maxHeartbeats 8000000 in
theorem where_any (g : Gt) (p : GtP) (ra : Option Addr) (rs : List Int) (mc m : Nat) (w : World) (hm : rs.length = m) (hm8 : m ≤ 140737488355328) (hok : GtOk w p g) (hra : IntsAt w ra rs) :
    Calls Try.prog 27 #[.agg (gtL g p).toArray, .slice ra m mc] w fun e w' => e = .returned (.tuple #[.agg #[.int .i64 (whereP g rs).1.1, .int .i64 (whereP g rs).1.2], .int .i64 (whereP g rs).2]) ∧ Below w.heap.size w w' := by
  subst hm
  have HE := hid (show whereP g rs = if gtE g ≠ 0 then ((0, 0), gtE g) else if rs.length ≠ g.ss.length then ((0, 0), 2) else if (lohi (posL g rs (g.travel + 1).toNat)).1 = -1 then ((0, 0), 9) else (lohi (posL g rs (g.travel + 1).toNat), 0) from rfl)
  have HGd := hid (fun h => gtGood (g := g) h)
  have HOk := hid hok; have HRa := hid hra
  have hB0 : Below (w.alloc (.cells (gtL g p).toArray 33)).heap.size (w.alloc (.cells (gtL g p).toArray 33)) ((w.alloc (.cells (gtL g p).toArray 33)).alloc (.cells #[.int .i64 0, .int .i64 0] 53)) := (Below.refl _ _).alloc (Nat.le_refl _) _
  have R1 := range_later (range_alloc w (gtL g p) 33) hB0 (by simp)
  have HGe := hid (gateError_any g p ((w.alloc (.cells (gtL g p).toArray 33)).alloc (.cells #[.int .i64 0, .int .i64 0] 53)) (hok.later (((Below.refl w.heap.size w).alloc (Nat.le_refl _) _).alloc (by simp) _) (Nat.le_refl _)))
  have HB := hid (show Below w.heap.size w ((w.alloc (.cells (gtL g p).toArray 33)).alloc (.cells #[.int .i64 0, .int .i64 0] 53)) from ((Below.refl w.heap.size w).alloc (Nat.le_refl _) _).alloc (by simp) _)
  clear hok hB0 hra
  refine (callsIn_wide (n := 8)).1 ?_
  refine callsIn_of_wp_marks Try.func27 rfl trivial ?_ rfl
  simp only [Try.ntmps27, List.size_toArray, List.length_cons, List.length_nil, Nat.reduceAdd, Nat.reduceSub, Array.replicate_succ, Array.replicate_zero, List.push_toArray, List.append_toArray, List.nil_append, List.cons_append]
  gi_wp2_with (refine wpListIn_load_mid rfl 33 _ rfl _ 0 rfl (gtL g p) _ (R1) Try.underlying33 rfl (by kernel_rfl) ?_)
  refine ⟨trivial, ?_⟩
  refine (callsIn_wide.2 HGe.out).mono ?_
  rintro e w1 ⟨rfl, hb⟩
  have RR := range_later R1 hb (by simp <;> omega)
  have c19 := range_cell RR (show (gtL g p)[19]? = some (.slice p.sa g.ss.length p.sc) from rfl)
  have y0 : w1.cell? ⟨w.heap.size + 1, 0, none⟩ = some (.int .i64 0) := (hb.cell (p := ⟨w.heap.size + 1, 0, none⟩) (by simp)).trans (by simp [go_sem])
  have y1 : w1.cell? ⟨w.heap.size + 1, 1, none⟩ = some (.int .i64 0) := (hb.cell (p := ⟨w.heap.size + 1, 1, none⟩) (by simp)).trans (by simp [go_sem])
  have f0 : ∀ o, w1.frozen? ⟨w.heap.size + 1, o, none⟩ = false := fun o => (hb.frozen (p := ⟨w.heap.size + 1, o, none⟩) (by simp)).trans (by simp [go_sem])
  have hfin := HB.out.trans (hb.mono HB.out.size)
  have l1 : w.heap.size + 1 < w1.heap.size := by have := hb.size; simp at this; omega
  have l0 : w.heap.size < w1.heap.size := by omega
  have HRR := hid RR
  clear R1 HGe hb HB RR
  generalize gtE g = x0 at *
  by_cases hx : x0 = 0
  · have q : (x0 != 0) = false := by simp [hx]
    have HX := hid hx
    have HG := hid (HGd.out hx)
    clear hx HGd
    by_cases hl : rs.length = g.ss.length
    · have q2 : ((rs.length : Int) != (g.ss.length : Int)) = false := by simp [hl]
      have HLn := hid hl
      clear hl
      gi_wp2_with (refine wpListIn_load_mid rfl 33 _ rfl _ 0 rfl (gtL g p) _ (range_later HRR.out ((Below.refl _ _).alloc (Nat.le_refl _) _) (by omega)) Try.underlying33 rfl (by kernel_rfl) ?_)
      refine ⟨trivial, ?_⟩
      refine (callsIn_wide.2 (agreed_any g p ra rs.length mc _)).mono ?_
      rintro e w' ⟨rfl, rfl⟩
      gi_wp2
      obtain ⟨N, hN⟩ : ∃ N : Nat, (g.travel + 1).toNat = N := ⟨_, rfl⟩
      have hNI : (N : Int) = g.travel + 1 := by rw [← hN]; exact Int.toNat_of_nonneg (by have := HG.out.travel; omega)
      have hB1 : Below w1.heap.size w1 (((w1.alloc (.cells #[.int .i64 (-1), .int .i64 (-1)] 53)).alloc (.cells (gtL g p).toArray 33)).alloc (.cells #[.slice ra rs.length mc] 30)) := (((Below.refl _ _).alloc (Nat.le_refl _) _).alloc (by simp) _).alloc (by simp; omega) _
      obtain ⟨W0, hW0⟩ : ∃ W0, ((w1.alloc (.cells #[.int .i64 (-1), .int .i64 (-1)] 53)).alloc (.cells (gtL g p).toArray 33)).alloc (.cells #[.slice ra rs.length mc] 30) = W0 := ⟨_, rfl⟩
      have hsz : W0.heap.size = w1.heap.size + 3 := by rw [← hW0]; simp
      have k0 : W0.heap[w1.heap.size]? = some (.cells #[.int .i64 (-1), .int .i64 (-1)] 53 (0, 0)) := by
        rw [← hW0, Below.heap_alloc _ _ _ (by simp; omega), Below.heap_alloc _ _ _ (by simp)]
        exact World.alloc_heap_new w1 _
      have k2 : W0.cell? ⟨w1.heap.size + 2, 0, none⟩ = some (.slice ra rs.length mc) := by rw [← hW0]; simp [go_sem]
      have k1 : W0.rangeAt (w1.heap.size + 1) 0 (gtL g p) := by
        rw [← hW0]
        have h := range_alloc (w1.alloc (.cells #[.int .i64 (-1), .int .i64 (-1)] 53)) (gtL g p) 33
        have hs : (w1.alloc (.cells #[.int .i64 (-1), .int .i64 (-1)] 53)).heap.size = w1.heap.size + 1 := by simp
        rw [hs] at h
        exact range_later h ((Below.refl _ _).alloc (Nat.le_refl _) _) (by simp)
      rw [hW0] at hB1 ⊢
      have hBW := hid (bthenY hfin hB1)
      have HR := hid (HE.out.trans ((if_neg (by simp [HX.out])).trans (if_neg (by simp [HLn.out]))))
      rw [hN] at HR
      have HLp := hid (lohi_pos g rs N)
      clear hW0 hN
      refine wpIn_rangeFunc_ownH rfl (by omega) (gf := 107) (lb := #[.pointer (some ⟨w1.heap.size + 1, 0, none⟩), .pointer (some ⟨w1.heap.size + 1 + 1, 0, none⟩)]) rfl trivial (enters_of Try.func107 (by kernel_rfl) rfl)
        (ag_stops (8 - 1) (by omega) w1.heap.size mc N g p ra rs HG.out hNI HLn.out W0 k1 k2 (by omega) w (by omega) hBW.out HOk.out.ss HRa.out) KeepF.trans (KeepF.put (by omega)) (Below.refl _ _) (fun _ => rfl)
        (fun pre W => W.heap[w1.heap.size]? = some (.cells #[.int .i64 (lohi pre).1, .int .i64 (lohi pre).2] 53 (0, 0)) ∧ Below w1.heap.size W0 W)
        (fun _ _ _ => False)
        (OwnFrom.and (Own.from (bcells_own w1.heap.size 53 (fun pre : List Int => #[.int .i64 (lohi pre).1, .int .i64 (lohi pre).2])) _) (ownFrom_below (by omega) (by omega)))
        (fun _ _ _ _ _ hs _ _ => hs)
        ⟨k0, Below.refl _ _⟩
        (fun x a' W => a' = { tmps := #[.agg (gtL g p).toArray, .slice ra rs.length mc, .pointer (some ⟨w.heap.size, 0, none⟩), undef, .pointer (some ⟨w.heap.size + 1, 0, none⟩), .int .i64 0, .int .i64 x0, .pointer (some ⟨w1.heap.size, 0, none⟩), .int .i64 x, .agg (gtL g p).toArray, .int .i64 x0, .int .i64 x0, .bool false, undef, undef, .slice ra rs.length mc, .int .i64 rs.length, .pointer (some ⟨w.heap.size, 19, none⟩), .slice p.sa g.ss.length p.sc, .int .i64 g.ss.length, .bool false, undef, .agg #[.int .i64 (-1), .int .i64 (-1)], .agg (gtL g p).toArray, .slice ra rs.length mc, .func (.func 107) #[] #[.pointer (some ⟨w1.heap.size + 1, 0, none⟩), .pointer (some ⟨w1.heap.size + 1 + 1, 0, none⟩)], .int .i64 x, undef, undef, undef, undef, undef, undef, undef, undef, undef, undef, undef, undef], defers := [] })
        (fun x a' _ X Y row hs hg hr => hs)
        ?assign ?body ?done ?stop
      case assign =>
        rintro l pre x W K ⟨hv, hB⟩ hK
        simp only [encPos]
        gi_wp2
        exact hK _ _ (KeepsFrom.refl _ _) (KeepF.refl _ _) ⟨hv, hB⟩ rfl
      case body =>
        rintro l pre x a' W hl ⟨r, hr⟩ ⟨hv, hB⟩ rfl hlt
        have hs := hB.size
        have e0 : W.cell? ⟨w1.heap.size, 0, none⟩ = some (.int .i64 (lohi pre).1) := by simp [World.cell?, hv]
        have e1 : W.cell? ⟨w1.heap.size, 1, none⟩ = some (.int .i64 (lohi pre).2) := by simp [World.cell?, hv]
        have ef : ∀ o, W.frozen? ⟨w1.heap.size, o, none⟩ = false := by intro o; simp [World.frozen?, hv]
        have hsn := lohi_snoc pre x
        generalize lohi pre = q0 at *
        obtain ⟨lo, hi⟩ := q0
        dsimp only at e0 e1 hv
        by_cases hlo : lo = -1
        · have q3 : (lo == -1) = true := by simp [hlo]
          have hL := hid (show lohi (pre ++ [x]) = (x, x) by rw [hsn]; simp [lohiF, hlo])
          clear hsn hlo
          gi_wp2
          exact ⟨((KeepsOthers.setCell _ _ _).trans (KeepsOthers.setCell _ _ _)).from _, (KeepF.set _ _ _ _).trans (KeepF.set _ _ _ _), by rw [hL.out]; exact heap_set1 (heap_set0 hv), (hB.setCell (Nat.le_refl _) _).setCell (Nat.le_refl _) _⟩
        · have q3 : (lo == -1) = false := by simp [hlo]
          have hL := hid (show lohi (pre ++ [x]) = (lo, x) by rw [hsn]; simp [lohiF, hlo])
          clear hsn hlo
          gi_wp2
          exact ⟨(KeepsOthers.setCell _ _ _).from _, KeepF.set _ _ _ _, by rw [hL.out]; exact heap_set1 hv, hB.setCell (Nat.le_refl _) _⟩
      case done =>
        rintro D ys W hD rfl ⟨hv, hB⟩ hK
        have hs := hB.size
        have e0 : W.cell? ⟨w1.heap.size, 0, none⟩ = some (.int .i64 (lohi (posL g rs N)).1) := by simp [World.cell?, hv]
        have e1 : W.cell? ⟨w1.heap.size, 1, none⟩ = some (.int .i64 (lohi (posL g rs N)).2) := by simp [World.cell?, hv]
        have hBB := hB1.mono (by omega : w1.heap.size ≤ w1.heap.size) |>.trans hB
        have z0 := (hBB.cell (p := ⟨w.heap.size + 1, 0, none⟩) l1).trans y0
        have z1 := (hBB.cell (p := ⟨w.heap.size + 1, 1, none⟩) l1).trans y1
        have zf := fun o => (hBB.frozen (p := ⟨w.heap.size + 1, o, none⟩) l1).trans (f0 o)
        have hfW := bthenY hfin hBB
        have HD := hid hD; have HK := hid hK
        clear y0 y1 f0 k0 k1 k2 hv hD
        generalize lohi (posL g rs N) = q0 at *
        obtain ⟨lo, hi⟩ := q0
        dsimp only at e0 e1 HR HLp
        by_cases hlo : lo = -1
        · have q3 : (lo == -1) = true := by simp [hlo]
          have hr := HR.out
          rw [if_pos hlo] at hr
          have HRr := hid hr
          clear hlo hr HR HLp
          gi_wp2
          have hne : D ≠ w.heap.size + 1 := by have := HD.out; omega
          have hKV : ((W.setCell ⟨w.heap.size + 1, 0, none⟩ (.int .i64 0)).setCell ⟨w.heap.size + 1, 1, none⟩ (.int .i64 0)).heap[D]? = some (.deferred (some [])) := (Below.heap_setCell _ _ _ _ (by exact hne)).trans ((Below.heap_setCell _ _ _ _ (by exact hne)).trans HK.out)
          have r0 : ((W.setCell ⟨w.heap.size + 1, 0, none⟩ (.int .i64 0)).setCell ⟨w.heap.size + 1, 1, none⟩ (.int .i64 0)).cell? ⟨w.heap.size + 1, 0, none⟩ = some (.int .i64 0) := (cs_o (.inr (by omega))).trans (cs_s ⟨_, z0⟩)
          have r1 : ((W.setCell ⟨w.heap.size + 1, 0, none⟩ (.int .i64 0)).setCell ⟨w.heap.size + 1, 1, none⟩ (.int .i64 0)).cell? ⟨w.heap.size + 1, 1, none⟩ = some (.int .i64 0) := cs_s (cell_ex ⟨_, z1⟩)
          have hVs : ((W.setCell ⟨w.heap.size + 1, 0, none⟩ (.int .i64 0)).setCell ⟨w.heap.size + 1, 1, none⟩ (.int .i64 0)).heap.size = W.heap.size := by simp
          have hVB := (hfW.setCell (p := ⟨w.heap.size + 1, 0, none⟩) (by show w.heap.size ≤ w.heap.size + 1; omega) (.int .i64 0)).setCell (p := ⟨w.heap.size + 1, 1, none⟩) (by show w.heap.size ≤ w.heap.size + 1; omega) (.int .i64 0)
          generalize World.setCell (World.setCell _ _ _) _ _ = V at *
          have hbP := belowK_b (n₀ := W0.heap.size) (w := W0) (Nat.le_refl _) V D (.deferred (some [])) (.deferred none) HD.out hKV rfl rfl
          have p0 := (hbP.cell (p := ⟨w.heap.size + 1, 0, none⟩) (by show w.heap.size + 1 < W0.heap.size; omega)).trans r0
          have p1 := (hbP.cell (p := ⟨w.heap.size + 1, 1, none⟩) (by show w.heap.size + 1 < W0.heap.size; omega)).trans r1
          have hPB := hVB.trans (hbP.mono (by omega))
          clear HD hne r0 r1 z0 z1 e0 e1 zf
          refine ⟨by simp, .inl ⟨_, _, rfl, run_takeDeferred hKV, ?_⟩⟩
          refine ⟨.tuple #[.agg #[.int .i64 0, .int .i64 0], .int .i64 9], by simp [results, Try.results27, go_sem, p0, p1], ?_⟩
          exact ⟨by rw [HRr.out], hPB⟩
        · have q3 : (lo == -1) = false := by simp [hlo]
          have hr := HR.out
          rw [if_neg hlo] at hr
          have HRr := hid hr
          clear hlo hr HR HLp
          gi_wp2
          have hne : D ≠ w.heap.size + 1 := by have := HD.out; omega
          have hKV : ((W.setCell ⟨w.heap.size + 1, 0, none⟩ (.int .i64 lo)).setCell ⟨w.heap.size + 1, 1, none⟩ (.int .i64 hi)).heap[D]? = some (.deferred (some [])) := (Below.heap_setCell _ _ _ _ (by exact hne)).trans ((Below.heap_setCell _ _ _ _ (by exact hne)).trans HK.out)
          have r0 : ((W.setCell ⟨w.heap.size + 1, 0, none⟩ (.int .i64 lo)).setCell ⟨w.heap.size + 1, 1, none⟩ (.int .i64 hi)).cell? ⟨w.heap.size + 1, 0, none⟩ = some (.int .i64 lo) := (cs_o (.inr (by omega))).trans (cs_s ⟨_, z0⟩)
          have r1 : ((W.setCell ⟨w.heap.size + 1, 0, none⟩ (.int .i64 lo)).setCell ⟨w.heap.size + 1, 1, none⟩ (.int .i64 hi)).cell? ⟨w.heap.size + 1, 1, none⟩ = some (.int .i64 hi) := cs_s (cell_ex ⟨_, z1⟩)
          have hVs : ((W.setCell ⟨w.heap.size + 1, 0, none⟩ (.int .i64 lo)).setCell ⟨w.heap.size + 1, 1, none⟩ (.int .i64 hi)).heap.size = W.heap.size := by simp
          have hVB := (hfW.setCell (p := ⟨w.heap.size + 1, 0, none⟩) (by show w.heap.size ≤ w.heap.size + 1; omega) (.int .i64 lo)).setCell (p := ⟨w.heap.size + 1, 1, none⟩) (by show w.heap.size ≤ w.heap.size + 1; omega) (.int .i64 hi)
          generalize World.setCell (World.setCell _ _ _) _ _ = V at *
          have hbP := belowK_b (n₀ := W0.heap.size) (w := W0) (Nat.le_refl _) V D (.deferred (some [])) (.deferred none) HD.out hKV rfl rfl
          have p0 := (hbP.cell (p := ⟨w.heap.size + 1, 0, none⟩) (by show w.heap.size + 1 < W0.heap.size; omega)).trans r0
          have p1 := (hbP.cell (p := ⟨w.heap.size + 1, 1, none⟩) (by show w.heap.size + 1 < W0.heap.size; omega)).trans r1
          have hPB := hVB.trans (hbP.mono (by omega))
          clear HD hne r0 r1 z0 z1 e0 e1 zf
          refine ⟨by simp, .inl ⟨_, _, rfl, run_takeDeferred hKV, ?_⟩⟩
          refine ⟨.tuple #[.agg #[.int .i64 lo, .int .i64 hi], .int .i64 0], by simp [results, Try.results27, go_sem, p0, p1], ?_⟩
          exact ⟨by rw [HRr.out], hPB⟩
      case stop =>
        rintro D c pre W _ _ h _
        exact h.elim
    · have q2 : ((rs.length : Int) != (g.ss.length : Int)) = true := by simp; omega
      have HR := hid (HE.out.trans ((if_neg (by simp [HX.out])).trans (if_pos hl)))
      clear hl HRR
      gi_wp2
      have r0 := cs_o (x := w1.setCell ⟨w.heap.size + 1, 0, none⟩ (.int .i64 0)) (b := w.heap.size + 1) (c := w.heap.size + 1) (i := 0) (j := 1) (v := .int .i64 0) (.inr (by omega)) |>.trans (cs_s ⟨_, y0⟩)
      have r1 := cs_s (x := w1.setCell ⟨w.heap.size + 1, 0, none⟩ (.int .i64 0)) (p := ⟨w.heap.size + 1, 1, none⟩) (v := .int .i64 0) (cell_ex ⟨_, y1⟩)
      have hVB := (hfin.setCell (p := ⟨w.heap.size + 1, 0, none⟩) (by show w.heap.size ≤ w.heap.size + 1; omega) (.int .i64 0)).setCell (p := ⟨w.heap.size + 1, 1, none⟩) (by show w.heap.size ≤ w.heap.size + 1; omega) (.int .i64 0)
      generalize World.setCell (World.setCell _ _ _) _ _ = V at *
      exact ⟨.tuple #[.agg #[.int .i64 0, .int .i64 0], .int .i64 2], by simp [results, Try.results27, go_sem, r0, r1], ⟨by rw [HR.out], hVB⟩⟩
  · have q : (x0 != 0) = true := by simp [hx]
    have HR := hid (HE.out.trans (if_pos hx))
    clear hx HRR
    gi_wp2
    have r0 := cs_o (x := w1.setCell ⟨w.heap.size + 1, 0, none⟩ (.int .i64 0)) (b := w.heap.size + 1) (c := w.heap.size + 1) (i := 0) (j := 1) (v := .int .i64 0) (.inr (by omega)) |>.trans (cs_s ⟨_, y0⟩)
    have r1 := cs_s (x := w1.setCell ⟨w.heap.size + 1, 0, none⟩ (.int .i64 0)) (p := ⟨w.heap.size + 1, 1, none⟩) (v := .int .i64 0) (cell_ex ⟨_, y1⟩)
    have hVB := (hfin.setCell (p := ⟨w.heap.size + 1, 0, none⟩) (by show w.heap.size ≤ w.heap.size + 1; omega) (.int .i64 0)).setCell (p := ⟨w.heap.size + 1, 1, none⟩) (by show w.heap.size ≤ w.heap.size + 1; omega) (.int .i64 0)
    generalize World.setCell (World.setCell _ _ _) _ _ = V at *
    exact ⟨.tuple #[.agg #[.int .i64 0, .int .i64 0], .int .i64 x0], by simp [results, Try.results27, go_sem, r0, r1], ⟨by rw [HR.out], hVB⟩⟩
end Go.Proofs.Ytpgggffcpcjahaa
