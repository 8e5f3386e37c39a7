/- Gate, part CJ: the reference's agrees and where. -/
import Derived.Test.YtdoklolinbmhpaaGreatYG
import Derived.Test.YtdoklolinbmhpaaGreatCI
import Derived.Lib.QuietBelow
import Derived.Deep.Cut
set_option linter.all false
namespace Go.Proofs.YtdoklolinbmhpaaGreat
open Go.RowKit Go.Sort

set_option maxRecDepth 100000 in
set_option maxHeartbeats 2000000 in
theorem ragrees_any (s : Sen) (r x : Int) (w : World) (hs : SenGood s) (hx : 0 ≤ x ∧ x ≤ 5000) :
    Calls Tryz.prog 82 #[.agg #[.int .i64 s.kind, .int .i64 s.at_, .int .i64 s.tol], .int .i64 r, .int .i64 x] w fun e w' => e = .returned (.bool (agB s r x)) ∧ Below w.heap.size w w' := by
  have h1 := hs.at_; have h2 := hs.tol
  have v1 : IntKind.i64.wrap (x - s.tol) = x - s.tol := IntWalk.i64_in _ (by omega)
  have v2 : IntKind.i64.wrap (x + s.tol) = x + s.tol := IntWalk.i64_in _ (by omega)
  have v3 : IntKind.i64.wrap (s.at_ - s.tol) = s.at_ - s.tol := IntWalk.i64_in _ (by omega)
  have v4 : IntKind.i64.wrap (s.at_ + s.tol) = s.at_ + s.tol := IntWalk.i64_in _ (by omega)
  obtain ⟨y, hy⟩ : ∃ y, agB s r x = y := ⟨_, rfl⟩
  have HE := hid (show y = if s.kind = 1 then inB r (x - s.tol) (x + s.tol) else if r = 1 then decide (s.at_ - s.tol ≤ x) else if r = 0 then decide (x ≤ s.at_ + s.tol) else false by rw [← hy]; rfl)
  rw [hy]
  clear hy h1 h2 hs hx
  by_cases hk : s.kind = 1
  · have q : (s.kind == 1) = true := by simp [hk]
    have HR := hid (HE.out.trans (if_pos hk))
    clear hk HE
    by_cases c1 : x - s.tol ≤ r
    · by_cases c2 : r ≤ x + s.tol
      · have d1 : decide (x - s.tol ≤ r) = true := by simp [c1]
        have d2 : decide (r ≤ x + s.tol) = true := by simp [c2]
        have e : y = true := HR.out.trans (inB_iff.2 ⟨c1, c2⟩)
        clear c1 c2 HR
        subst e
        go_enter Tryz.func82, Tryz.ntmps82
        go_wp2_with fail
        go_ret
        exact ⟨rfl, (Below.refl _ _).alloc (Nat.le_refl _) _⟩
      · have d1 : decide (x - s.tol ≤ r) = true := by simp [c1]
        have d2 : decide (r ≤ x + s.tol) = false := by simp; omega
        have e : y = false := HR.out.trans (inB_no.2 fun h => c2 h.2)
        clear c1 c2 HR
        subst e
        go_enter Tryz.func82, Tryz.ntmps82
        go_wp2_with fail
        go_ret
        exact ⟨rfl, (Below.refl _ _).alloc (Nat.le_refl _) _⟩
    · have d1 : decide (x - s.tol ≤ r) = false := by simp; omega
      have e : y = false := HR.out.trans (inB_no.2 fun h => c1 h.1)
      clear c1 HR
      subst e
      go_enter Tryz.func82, Tryz.ntmps82
      go_wp2_with fail
      go_ret
      exact ⟨rfl, (Below.refl _ _).alloc (Nat.le_refl _) _⟩
  · have q : (s.kind == 1) = false := by simp [hk]
    by_cases h1 : r = 1
    · have q1 : (r == 1) = true := by simp [h1]
      have q0 : (r == 0) = false := by simp [h1]
      have HR := hid (HE.out.trans ((if_neg hk).trans (if_pos h1)))
      clear hk h1 HE
      by_cases c1 : s.at_ - s.tol ≤ x
      · have d1 : decide (s.at_ - s.tol ≤ x) = true := by simp [c1]
        have e : y = true := HR.out.trans d1
        clear c1 HR
        subst e
        go_enter Tryz.func82, Tryz.ntmps82
        go_wp2_with fail
        go_ret
        exact ⟨rfl, (Below.refl _ _).alloc (Nat.le_refl _) _⟩
      · have d1 : decide (s.at_ - s.tol ≤ x) = false := by simp; omega
        have e : y = false := HR.out.trans d1
        clear c1 HR
        subst e
        go_enter Tryz.func82, Tryz.ntmps82
        go_wp2_with fail
        go_ret
        exact ⟨rfl, (Below.refl _ _).alloc (Nat.le_refl _) _⟩
    · have q1 : (r == 1) = false := by simp [h1]
      by_cases h0 : r = 0
      · have q0 : (r == 0) = true := by simp [h0]
        have HR := hid (HE.out.trans ((if_neg hk).trans ((if_neg h1).trans (if_pos h0))))
        clear hk h1 h0 HE
        by_cases c1 : x ≤ s.at_ + s.tol
        · have d1 : decide (x ≤ s.at_ + s.tol) = true := by simp [c1]
          have e : y = true := HR.out.trans d1
          clear c1 HR
          subst e
          go_enter Tryz.func82, Tryz.ntmps82
          go_wp2_with fail
          go_ret
          exact ⟨rfl, (Below.refl _ _).alloc (Nat.le_refl _) _⟩
        · have d1 : decide (x ≤ s.at_ + s.tol) = false := by simp; omega
          have e : y = false := HR.out.trans d1
          clear c1 HR
          subst e
          go_enter Tryz.func82, Tryz.ntmps82
          go_wp2_with fail
          go_ret
          exact ⟨rfl, (Below.refl _ _).alloc (Nat.le_refl _) _⟩
      · have q0 : (r == 0) = false := by simp [h0]
        have e : y = false := HE.out.trans ((if_neg hk).trans ((if_neg h1).trans (if_neg h0)))
        clear hk h1 h0 HE
        subst e
        go_enter Tryz.func82, Tryz.ntmps82
        go_wp2_with fail
        go_ret
        exact ⟨rfl, (Below.refl _ _).alloc (Nat.le_refl _) _⟩
/-- The span of the first k positions on which enough sensors agree, and whether there is any. -/
def whP (g : Gt) (rs : List Int) (k : Nat) : (Int × Int) × Bool := if posL g rs k = [] then ((0, 0), false) else (lohi (posL g rs k), true)
theorem whP_no {g : Gt} {rs : List Int} {k : Nat} (h : enB g rs k = false) : whP g rs (k + 1) = whP g rs k := by
  have e : posL g rs (k + 1) = posL g rs k := by show posL g rs k ++ (if enB g rs k = true then [(k : Int)] else []) = _; simp [h]
  unfold whP; rw [e]
theorem whP_yes {g : Gt} {rs : List Int} {k : Nat} (h : enB g rs k = true) : whP g rs (k + 1) = ((if (whP g rs k).2 = true then (whP g rs k).1.1 else (k : Int), (k : Int)), true) := by
  have e : posL g rs (k + 1) = posL g rs k ++ [(k : Int)] := by show posL g rs k ++ (if enB g rs k = true then [(k : Int)] else []) = _; simp [h]
  unfold whP
  rw [e, if_neg (by simp), lohi_snoc]
  by_cases hp : posL g rs k = []
  · rw [if_pos hp, hp]; simp [lohi, lohiF]
  · rw [if_neg hp]
    rcases lohi_pos g rs k with ⟨-, -, h3⟩ | ⟨h1, -, -⟩
    · exact absurd h3 hp
    · have := (posL_mem.1 h1).1
      unfold lohiF
      rw [if_neg (by omega)]
      simp
/-- A gate, the result and the span that is found, in memory. -/
structure WhW (w : World) (g : Gt) (p : GtP) (lo hi : Int) (x : World) : Prop where
  below : Below w.heap.size w x
  lt : w.heap.size + 1 + 1 < x.heap.size
  rows : x.rangeAt w.heap.size 0 (gtL g p)
  o0 : x.cell? ⟨w.heap.size + 1 + 1, 0, none⟩ = some (.int .i64 lo)
  o1 : x.cell? ⟨w.heap.size + 1 + 1, 1, none⟩ = some (.int .i64 hi)
  r0 : ∃ z, x.cell? ⟨w.heap.size + 1, 0, none⟩ = some z
  r1 : ∃ z, x.cell? ⟨w.heap.size + 1, 1, none⟩ = some z
  fo : ∀ o, x.frozen? ⟨w.heap.size + 1 + 1, o, none⟩ = false
  fr : ∀ o, x.frozen? ⟨w.heap.size + 1, o, none⟩ = false
theorem WhW.later {w x y : World} {g : Gt} {p : GtP} {lo hi : Int} (h : WhW w g p lo hi x) (hb : Below x.heap.size x y) : WhW w g p lo hi y := by
  have hl := h.lt
  have c : ∀ b o, b < x.heap.size → y.cell? ⟨b, o, none⟩ = x.cell? ⟨b, o, none⟩ := fun b o hlt => hb.cell (p := ⟨b, o, none⟩) hlt
  have f : ∀ b o, b < x.heap.size → y.frozen? ⟨b, o, none⟩ = x.frozen? ⟨b, o, none⟩ := fun b o hlt => hb.frozen (p := ⟨b, o, none⟩) hlt
  exact ⟨bthen h.below hb, Nat.lt_of_lt_of_le hl hb.size, range_later h.rows hb (by omega), (c _ _ (by omega)).trans h.o0, (c _ _ (by omega)).trans h.o1, by rw [c _ _ (by omega)]; exact h.r0, by rw [c _ _ (by omega)]; exact h.r1, fun o => (f _ _ (by omega)).trans (h.fo o), fun o => (f _ _ (by omega)).trans (h.fr o)⟩
theorem WhW.start (w : World) (g : Gt) (p : GtP) : WhW w g p 0 0 (((w.alloc (.cells (gtL g p).toArray 25)).alloc (.cells #[.int .i64 0, .int .i64 0] 50)).alloc (.cells #[.int .i64 0, .int .i64 0] 50)) := by
  have H := FoW.start w g p 25
  have sz : (w.alloc (.cells (gtL g p).toArray 25)).heap.size = w.heap.size + 1 := by simp
  generalize World.alloc w _ = X at *
  obtain ⟨h1, h2, h3, h4⟩ := two_boxes (w := X) (cs := [.int .i64 0, .int .i64 0]) (ds := [.int .i64 0, .int .i64 0]) (T := 50) (S := 50) (Below.refl _ _)
  have g1 : ∀ o, ((X.alloc (.cells #[.int .i64 0, .int .i64 0] 50)).alloc (.cells #[.int .i64 0, .int .i64 0] 50)).frozen? ⟨X.heap.size, o, none⟩ = false := fun o => by simp [go_sem]
  have g2 : ∀ o, ((X.alloc (.cells #[.int .i64 0, .int .i64 0] 50)).alloc (.cells #[.int .i64 0, .int .i64 0] 50)).frozen? ⟨X.heap.size + 1, o, none⟩ = false := fun o => by simp [go_sem]
  rw [sz] at h1 h2 h3 g1 g2
  have hl := H.lt
  exact ⟨bthen H.below h4, h3, range_later H.rows h4 (by omega), range_cell h2 (show [_, _][0]? = some (Value.int .i64 0) from rfl), range_cell h2 (show [_, _][1]? = some (Value.int .i64 0) from rfl), ⟨.int .i64 0, range_cell h1 (show [_, _][0]? = some (Value.int .i64 0) from rfl)⟩, ⟨.int .i64 0, range_cell h1 (show [_, _][1]? = some (Value.int .i64 0) from rfl)⟩, g2, g1⟩
theorem WhW.setLo {w x : World} {g : Gt} {p : GtP} {lo hi : Int} (h : WhW w g p lo hi x) (v : Int) : WhW w g p v hi (x.setCell ⟨w.heap.size + 1 + 1, 0, none⟩ (.int .i64 v)) := by
  have c : ∀ b o, b ≠ w.heap.size + 1 + 1 → (x.setCell ⟨w.heap.size + 1 + 1, 0, none⟩ (.int .i64 v)).cell? ⟨b, o, none⟩ = x.cell? ⟨b, o, none⟩ := fun b o hb => cs_o (.inl hb)
  exact ⟨h.below.setCell (by show w.heap.size ≤ w.heap.size + 1 + 1; omega) _, by simpa using h.lt, fun j v hv => (c _ _ (by omega)).trans (h.rows j v hv), cs_s ⟨_, h.o0⟩, (cs_o (.inr (by omega))).trans h.o1, by rw [c _ _ (by omega)]; exact h.r0, by rw [c _ _ (by omega)]; exact h.r1, fun o => by simpa using h.fo o, fun o => by simpa using h.fr o⟩
theorem WhW.setHi {w x : World} {g : Gt} {p : GtP} {lo hi : Int} (h : WhW w g p lo hi x) (v : Int) : WhW w g p lo v (x.setCell ⟨w.heap.size + 1 + 1, 1, none⟩ (.int .i64 v)) := by
  have c : ∀ b o, b ≠ w.heap.size + 1 + 1 → (x.setCell ⟨w.heap.size + 1 + 1, 1, none⟩ (.int .i64 v)).cell? ⟨b, o, none⟩ = x.cell? ⟨b, o, none⟩ := fun b o hb => cs_o (.inl hb)
  exact ⟨h.below.setCell (by show w.heap.size ≤ w.heap.size + 1 + 1; omega) _, by simpa using h.lt, fun j v hv => (c _ _ (by omega)).trans (h.rows j v hv), (cs_o (.inr (by omega))).trans h.o0, cs_s ⟨_, h.o1⟩, by rw [c _ _ (by omega)]; exact h.r0, by rw [c _ _ (by omega)]; exact h.r1, fun o => by simpa using h.fo o, fun o => by simpa using h.fr o⟩
set_option maxRecDepth 100000 in
set_option maxHeartbeats 8000000 in
theorem rwhere_any (g : Gt) (p : GtP) (ra : Option Addr) (rs : List Int) (mc m : Nat) (w : World) (hm : rs.length = m) (hg : GtGood g) (hss : SensAt w p.sa g.ss) (hra : IntsAt w ra rs) (hl : g.ss.length = m) :
    Calls Tryz.prog 48 #[.agg (gtL g p).toArray, .slice ra m mc] w fun e w' => e = .returned (.tuple #[.agg #[.int .i64 (whP g rs (g.travel + 1).toNat).1.1, .int .i64 (whP g rs (g.travel + 1).toNat).1.2], .bool (whP g rs (g.travel + 1).toNat).2]) ∧ Below w.heap.size w w' := by
  have hsl := hg.slen; have hwr := hg.wrong; have htr := hg.travel
  obtain ⟨N, hN⟩ : ∃ N, (g.travel + 1).toNat = N := ⟨_, rfl⟩
  have hNI : (N : Int) = g.travel + 1 := by omega
  rw [hN]
  have HG := hid hg; have HSs := hid hss; have HRa := hid hra; have HL := hid hl; have HM := hid hm; have HN := hid hNI
  have hm6 : m ≤ 6 := by omega
  have HWr := hid hwr
  have hN5 : N ≤ 5001 := by omega
  have H0 := WhW.start w g p
  clear hg hss hra hl hm hsl hwr hN hNI htr
  go_enter Tryz.func48, Tryz.ntmps48
  go_upto_region 2 with fail
  generalize World.alloc (World.alloc (World.alloc w _) _) _ = W1 at *
  have H1 := hid H0
  clear H0
  go_wp2_with fail
  go_loopw [7, 8] (fun sv pv wr => ∃ k : Nat, k ≤ N ∧ pv = .int .i64 k ∧ sv = .bool (whP g rs k).2 ∧ Hid (WhW w g p (whP g rs k).1.1 (whP g rs k).1.2 wr)) (fun _ pv _ => N - (intOf pv).toNat)
  case atStart => exact ⟨0, Nat.zero_le _, rfl, rfl, H1⟩
  case round =>
    obtain ⟨k, hk, rfl, rfl, HW⟩ := hrel
    have c2 := range_cell HW.out.rows (show (gtL g p)[2]? = some (.int .i64 g.travel) from rfl)
    obtain ⟨WR, hWR⟩ : ∃ X, X = wr := ⟨_, rfl⟩
    subst hWR
    clear H1
    by_cases hlt : k < N
    · have q1 : decide ((k : Int) ≤ g.travel) = true := by have := HN.out; simp; omega
      have HKy := hid (fun h => whP_yes (g := g) (rs := rs) (k := k) h)
      have HKn := hid (fun h => whP_no (g := g) (rs := rs) (k := k) h)
      obtain ⟨lo, hi, sm, hwp⟩ : ∃ lo hi sm, whP g rs k = ((lo, hi), sm) := ⟨_, _, _, rfl⟩
      rw [hwp] at HKy HKn HW ⊢
      dsimp only at HKy HKn HW ⊢
      have vk : IntKind.i64.wrap ((k : Int) + 1) = ((k + 1 : Nat) : Int) := by rw [IntWalk.i64_in _ (by omega)]; omega
      clear hwp
      go_wp2_with fail
      clear c2
      go_loopw [9, 10] (fun nv iv wr => ∃ i : Nat, i ≤ m ∧ iv = .int .i64 i ∧ nv = .int .i64 (cntAg g.ss rs k i : Int) ∧ Hid (WhW w g p lo hi wr)) (fun _ iv _ => m - (intOf iv).toNat)
      case atStart => exact ⟨0, Nat.zero_le _, rfl, rfl, HW⟩
      case round =>
        obtain ⟨i, hi', rfl, rfl, HX⟩ := hrel
        have RR := HX.out.rows
        have hBw := HX.out.below
        by_cases hil : i < m
        · have hig : i < g.ss.length := by rw [HL.out]; exact hil
          have hir : i < rs.length := by rw [HM.out]; exact hil
          obtain ⟨b, o, hsa, hb, hat⟩ := (HSs.out.later hBw (Nat.le_refl _)).resolve_left (by intro e; rw [e] at hig; simp at hig)
          obtain ⟨rb, ro, hrae, hrb, hrat⟩ := (HRa.out.later hBw (Nat.le_refl _)).resolve_left (by intro e; rw [e] at hir; simp at hir)
          have c19 := range_cell RR (show (gtL g p)[19]? = some (.slice (some ⟨b, o, none⟩) m p.sc) by rw [← hsa, ← HL.out]; rfl)
          subst hrae
          have Rt := hat i hig
          have r0 := hrat i hir
          have hSg := senGood (HG.out.ss g.ss[i] (List.getElem_mem hig))
          have HCs := hid (fun (y : Bool) (hy : agB g.ss[i] rs[i] k = y) => cntAg_succ g.ss rs k (k := i) (s := g.ss[i]) (r := rs[i]) (y := y) (by simp [List.getD, hig]) (by simp [List.getD, hir]) hy)
          generalize g.ss[i] = s at *
          generalize rs[i] = r at *
          have t0 : wr.cell? ⟨b, o + i * 3, none⟩ = some (.int .i64 s.kind) := by simpa using Rt 0 _ (show (senL s)[0]? = some (.int .i64 s.kind) from rfl)
          have t1 : wr.cell? ⟨b, o + i * 3 + 1, none⟩ = some (.int .i64 s.at_) := Rt 1 _ rfl
          have t2 : wr.cell? ⟨b, o + i * 3 + 2, none⟩ = some (.int .i64 s.tol) := Rt 2 _ rfl
          have hjI : (i : Int) < (m : Int) := by omega
          have hj0' : (0 : Int) ≤ (i : Int) := Int.natCast_nonneg _
          have hAg := hid (fun W => ragrees_any s r k W hSg ⟨Int.natCast_nonneg _, by omega⟩)
          obtain ⟨y, hy⟩ : ∃ y, agB s r k = y := ⟨_, rfl⟩
          rw [hy] at hAg
          have hcs := HCs.out y hy
          have HC := hid hcs
          have hcl := cntAg_le g.ss rs k i
          generalize cntAg g.ss rs k i = c at *
          have v3 : IntKind.i64.wrap ((c : Int) + 1) = ((c + 1 : Nat) : Int) := by rw [IntWalk.i64_in _ (by omega)]; omega
          have v4 : IntKind.i64.wrap ((i : Int) + 1) = ((i + 1 : Nat) : Int) := by rw [IntWalk.i64_in _ (by omega)]; simp
          have y0 := fun d os => cell_regrown t0 d os
          have y1 := fun d os => cell_regrown t1 d os
          have y2 := fun d os => cell_regrown t2 d os
          have y3 := fun d os => cell_regrown c19 d os
          have y4 := fun d os => cell_regrown r0 d os
          clear hat hrat Rt hSg HCs hy hcs hcl RR hsa
          go_wp2_with fail
          refine wp_region_quiet_below (by kernel_rfl) (by kernel_rfl) ?_
          repeat (quiet_step (fail))
          quiet_step (exact Calls.regrown_of (hAg.out _))
          repeat (quiet_step (fail))
          refine wpQuiet_nil ?_
          intro _ hw'
          obtain ⟨⟨dq, osq⟩, hw''⟩ := hw'
          subst hw''
          have HX2 := hid (HX.out.later (below_regrown wr dq osq))
          clear y0 y1 y2 y3 y4 t0 t1 t2 r0 c19 hBw HX
          generalize grow (redrawn wr dq) osq = X at *
          cases y
          · go_wp2_with fail
            refine ⟨⟨i + 1, by omega, by go_num, by rw [HC.out]; simp, HX2⟩, by simp [intOf]; omega⟩
          · go_wp2_with fail
            refine ⟨⟨i + 1, by omega, by go_num, by rw [HC.out]; simp, HX2⟩, by simp [intOf]; omega⟩
        · obtain rfl : i = m := by omega
          have hjj : ¬ ((i : Int) < (i : Int)) := by omega
          have c19 := range_cell RR (show (gtL g p)[19]? = some (.slice p.sa i p.sc) by rw [← HL.out]; rfl)
          have c20 := range_cell RR (show (gtL g p)[20]? = some (.int .i64 g.wrong) from rfl)
          have o0 := HX.out.o0
          have o1 := HX.out.o1
          have fo := HX.out.fo
          have lt0 := HX.out.lt
          have HEn := hid (show enB g rs k = decide ((i : Int) - g.wrong ≤ (cntAg g.ss rs k i : Int)) by unfold enB; rw [HL.out])
          have hcl := cntAg_le g.ss rs k i
          have v5 : IntKind.i64.wrap ((i : Int) - g.wrong) = (i : Int) - g.wrong := IntWalk.i64_in _ (by have := HWr.out; rw [HL.out] at this; omega)
          generalize cntAg g.ss rs k i = c at *
          clear RR hBw hil
          by_cases hc : (c : Int) < (i : Int) - g.wrong
          · have q2 : decide ((c : Int) < (i : Int) - g.wrong) = true := by simp [hc]
            have HE2 := hid (HKn.out (by rw [HEn.out]; simp; omega))
            clear c19 c20 o0 o1 fo lt0
            have c19 := range_cell HX.out.rows (show (gtL g p)[19]? = some (.slice p.sa i p.sc) by rw [← HL.out]; rfl)
            have c20 := range_cell HX.out.rows (show (gtL g p)[20]? = some (.int .i64 g.wrong) from rfl)
            go_wp2_with fail
            exact ⟨⟨k + 1, by omega, by go_num, by rw [HE2.out], by rw [HE2.out]; exact HX⟩, by simp [intOf]; omega⟩
          · have q2 : decide ((c : Int) < (i : Int) - g.wrong) = false := by simp; omega
            have HE2 := hid (HKy.out (by rw [HEn.out]; simp; omega))
            cases sm
            · replace HE2 := hid (show whP g rs (k + 1) = (((k : Int), (k : Int)), true) from HE2.out)
              have HX2 := hid ((HX.out.setLo k).setHi k)
              have HXl := hid (HX.out.setLo k)
              have l1 := HXl.out.o1
              have l2 := HXl.out.fo
              go_wp2_with fail
              exact ⟨⟨k + 1, by omega, by go_num, by rw [HE2.out], by rw [HE2.out]; exact HX2⟩, by simp [intOf]; omega⟩
            · replace HE2 := hid (show whP g rs (k + 1) = ((lo, (k : Int)), true) from HE2.out)
              have HX2 := hid (HX.out.setHi k)
              go_wp2_with fail
              exact ⟨⟨k + 1, by omega, by go_num, by rw [HE2.out], by rw [HE2.out]; exact HX2⟩, by simp [intOf]; omega⟩
    · obtain rfl : k = N := by omega
      have q1 : decide ((k : Int) ≤ g.travel) = false := by have := HN.out; simp; omega
      obtain ⟨lo, hi, sm, hwp⟩ : ∃ lo hi sm, whP g rs k = ((lo, hi), sm) := ⟨_, _, _, rfl⟩
      rw [hwp] at HW ⊢
      dsimp only at HW ⊢
      have o0 := HW.out.o0
      have o1 := HW.out.o1
      have fr := HW.out.fr
      obtain ⟨z0, r0⟩ := HW.out.r0
      obtain ⟨z1, r1⟩ := HW.out.r1
      have lt0 := HW.out.lt
      have BF := HW.out.below
      have HZw := hid hwp
      clear hwp
      go_wp2_with fail
      have n0 : ((WR.setCell ⟨w.heap.size + 1, 0, none⟩ (.int .i64 lo)).setCell ⟨w.heap.size + 1, 1, none⟩ (.int .i64 hi)).cell? ⟨w.heap.size + 1, 0, none⟩ = some (.int .i64 lo) := (cs_o (.inr (by omega))).trans (cs_s ⟨_, r0⟩)
      have n1 : ((WR.setCell ⟨w.heap.size + 1, 0, none⟩ (.int .i64 lo)).setCell ⟨w.heap.size + 1, 1, none⟩ (.int .i64 hi)).cell? ⟨w.heap.size + 1, 1, none⟩ = some (.int .i64 hi) := cs_s (cell_ex ⟨_, r1⟩)
      have nb := (BF.setCell (p := ⟨w.heap.size + 1, 0, none⟩) (by show w.heap.size ≤ w.heap.size + 1; omega) (.int .i64 lo)).setCell (p := ⟨w.heap.size + 1, 1, none⟩) (by show w.heap.size ≤ w.heap.size + 1; omega) (.int .i64 hi)
      generalize World.setCell (World.setCell WR _ _) _ _ = U at *
      refine bodyPost_ret (v := .tuple #[.agg #[.int .i64 lo, .int .i64 hi], .bool sm]) (by simp [results, Tryz.results48, go_sem, n0, n1]) rfl ⟨by rw [HZw.out], nb⟩
end Go.Proofs.YtdoklolinbmhpaaGreat

set_option linter.all false
namespace Go.Proofs.YtdoklolinbmhpaaGreat
open Go.RowKit

theorem whereP_wh {g : Gt} {rs : List Int} (h : gtE g = 0) (hl : rs.length = g.ss.length) : whereP g rs = if (whP g rs (g.travel + 1).toNat).2 = true then ((whP g rs (g.travel + 1).toNat).1, 0) else ((0, 0), 9) := by
  unfold whereP whP
  rw [if_neg (by simp [h]), if_neg (by simp [hl])]
  rcases lohi_pos g rs (g.travel + 1).toNat with ⟨h1, h2, h3⟩ | ⟨h1, h2, -⟩
  · rw [if_pos h1, if_pos h3]; rfl
  · have h0 := (posL_mem.1 h1).1
    have hne : posL g rs (g.travel + 1).toNat ≠ [] := fun e => by rw [e] at h1; cases h1
    rw [if_neg (by omega), if_neg hne]; rfl
/-- A gate and the span that is returned, in memory. -/
structure WrW (w : World) (g : Gt) (p : GtP) (x : World) : Prop where
  below : Below w.heap.size w x
  lt : w.heap.size + 1 < x.heap.size
  rows : x.rangeAt w.heap.size 0 (gtL g p)
  r0 : ∃ z, x.cell? ⟨w.heap.size + 1, 0, none⟩ = some z
  r1 : ∃ z, x.cell? ⟨w.heap.size + 1, 1, none⟩ = some z
  fr : ∀ o, x.frozen? ⟨w.heap.size + 1, o, none⟩ = false
theorem WrW.later {w x y : World} {g : Gt} {p : GtP} (h : WrW w g p x) (hb : Below x.heap.size x y) : WrW w g p y := by
  have hl := h.lt
  have c : ∀ b o, b < x.heap.size → y.cell? ⟨b, o, none⟩ = x.cell? ⟨b, o, none⟩ := fun b o hlt => hb.cell (p := ⟨b, o, none⟩) hlt
  have f : ∀ b o, b < x.heap.size → y.frozen? ⟨b, o, none⟩ = x.frozen? ⟨b, o, none⟩ := fun b o hlt => hb.frozen (p := ⟨b, o, none⟩) hlt
  exact ⟨bthen h.below hb, Nat.lt_of_lt_of_le hl hb.size, range_later h.rows hb (by omega), by rw [c _ _ (by omega)]; exact h.r0, by rw [c _ _ (by omega)]; exact h.r1, fun o => (f _ _ (by omega)).trans (h.fr o)⟩
theorem WrW.start (w : World) (g : Gt) (p : GtP) : WrW w g p ((w.alloc (.cells (gtL g p).toArray 25)).alloc (.cells #[.int .i64 0, .int .i64 0] 50)) := by
  have H := FoW.start w g p 25
  have sz : (w.alloc (.cells (gtL g p).toArray 25)).heap.size = w.heap.size + 1 := by simp
  generalize World.alloc w _ = X at *
  obtain ⟨h1, h2, h3⟩ := one_box (w := X) (cs := [.int .i64 0, .int .i64 0]) (T := 50) (Below.refl _ _)
  have g1 : ∀ o, (X.alloc (.cells #[.int .i64 0, .int .i64 0] 50)).frozen? ⟨X.heap.size, o, none⟩ = false := fun o => by simp [go_sem]
  rw [sz] at h1 h2 g1
  have hl := H.lt
  exact ⟨bthen H.below h3, h2, range_later H.rows h3 (by omega), ⟨.int .i64 0, range_cell h1 (show [_, _][0]? = some (Value.int .i64 0) from rfl)⟩, ⟨.int .i64 0, range_cell h1 (show [_, _][1]? = some (Value.int .i64 0) from rfl)⟩, g1⟩
set_option maxRecDepth 100000 in
set_option maxHeartbeats 4000000 in
theorem rWhere_any (g : Gt) (p : GtP) (ra : Option Addr) (rs : List Int) (mc m : Nat) (w : World) (hm : rs.length = m) (hok : GtOk w p g) (hra : IntsAt w ra rs) :
    Calls Tryz.prog 17 #[.agg (gtL g p).toArray, .slice ra m mc] w fun e w' => e = .returned (.tuple #[.agg #[.int .i64 (whereP g rs).1.1, .int .i64 (whereP g rs).1.2], .int .i64 (whereP g rs).2]) ∧ Below w.heap.size w w' := by
  have HZ0 := hid (show gtE g ≠ 0 → whereP g rs = ((0, 0), gtE g) from fun h => by unfold whereP; rw [if_pos h])
  have HZ1 := hid (show gtE g = 0 → rs.length ≠ g.ss.length → whereP g rs = ((0, 0), 2) from fun h h' => by unfold whereP; rw [if_neg (by simp [h]), if_pos h'])
  have HZ2 := hid (fun h hl => whereP_wh (g := g) (rs := rs) h hl)
  have HGd := hid (fun h => gtGood (g := g) h)
  have HOk := hid hok; have HRa := hid hra; have HM := hid hm
  have H0 := WrW.start w g p
  clear hok hra hm
  obtain ⟨n, hn⟩ : ∃ n, g.ss.length = n := ⟨_, rfl⟩
  have HN := hid hn
  clear hn
  go_enter Tryz.func17, Tryz.ntmps17
  go_upto_region 1 with fail
  generalize World.alloc (World.alloc w _) _ = W1 at *
  have H1 := hid H0
  clear H0
  have R := H1.out.rows
  go_wp2_with (refine wpList_load_mid rfl 25 _ rfl _ 0 rfl (gtL g p) _ (R) Tryz.underlying25 rfl (by kernel_rfl) ?_)
  refine (rcheck_any g p _ (HOk.out.later H1.out.below (Nat.le_refl _))).mono ?_
  rintro e w2 ⟨rfl, hb⟩
  have HE1 := hid (H1.out.later hb)
  clear R H1 hb
  obtain ⟨k1, k2, ge, hge⟩ : ∃ a b c, gtP g = (a, b, c) := ⟨_, _, _, rfl⟩
  have hgE : gtE g = ge := by unfold gtE; rw [hge]
  rw [hge]
  rw [hgE] at HZ0 HZ1 HZ2 HGd
  clear hge hgE
  dsimp only
  have c19 := range_cell HE1.out.rows (show (gtL g p)[19]? = some (.slice p.sa n p.sc) by rw [← HN.out]; rfl)
  obtain ⟨z0, r0⟩ := HE1.out.r0
  obtain ⟨z1, r1⟩ := HE1.out.r1
  have fr := HE1.out.fr
  have lt0 := HE1.out.lt
  by_cases hx : ge = 0
  · have q : (ge == 0) = true := by simp [hx]
    have q2 : (ge != 0) = false := by simp [hx]
    by_cases hmn : m = n
    · have q3 : ((m : Int) != (n : Int)) = false := by simp [hmn]
      have HZ3 := hid (HZ2.out hx (by rw [HM.out, HN.out, hmn]))
      have HG := hid (HGd.out hx)
      have HRw := hid (fun W (hW : Below w.heap.size w W) => rwhere_any g p ra rs mc m W HM.out HG.out (HOk.out.later hW (Nat.le_refl _)).ss (HRa.out.later hW (Nat.le_refl _)) (by rw [HN.out, hmn]))
      obtain ⟨lo, hi, sm, hwp⟩ : ∃ lo hi sm, whP g rs (g.travel + 1).toNat = ((lo, hi), sm) := ⟨_, _, _, rfl⟩
      rw [hwp] at HRw HZ3
      dsimp only at HRw HZ3
      have R := HE1.out.rows
      clear hwp hx hmn HZ0 HZ1 HZ2 HGd
      go_upto_region 6 with fail
      clear c19 r0 r1 fr lt0 
      go_wp2_with (refine wpList_load_mid rfl 25 _ rfl _ 0 rfl (gtL g p) _ (R) Tryz.underlying25 rfl (by kernel_rfl) ?_)
      with_reducible refine (HRw.out _ HE1.out.below).mono ?_
      rintro e w3 ⟨rfl, hb⟩
      have H3 := hid (HE1.out.later hb)
      clear R HE1 hb HRw
      have BA := (Below.refl w3.heap.size w3).alloc (Nat.le_refl _) (.cells #[.int .i64 lo, .int .i64 hi] 50)
      have HE1 := hid (H3.out.later BA)
      have p0 : (w3.alloc (.cells #[.int .i64 lo, .int .i64 hi] 50)).cell? ⟨w3.heap.size, 0, none⟩ = some (.int .i64 lo) := by simp [go_sem]
      have p1 : (w3.alloc (.cells #[.int .i64 lo, .int .i64 hi] 50)).cell? ⟨w3.heap.size, 1, none⟩ = some (.int .i64 hi) := by simp [go_sem]
      clear BA
      cases sm
      · have HZ := hid (show whereP g rs = ((0, 0), 9) from HZ3.out)
        go_upto_region 8 with fail
        generalize World.alloc w3 _ = U at *
        obtain ⟨z0, r0⟩ := HE1.out.r0
        obtain ⟨z1, r1⟩ := HE1.out.r1
        have fr := HE1.out.fr
        have lt0 := HE1.out.lt
        go_wp2_with fail
        have n0 : ((U.setCell ⟨w.heap.size + 1, 0, none⟩ (.int .i64 0)).setCell ⟨w.heap.size + 1, 1, none⟩ (.int .i64 0)).cell? ⟨w.heap.size + 1, 0, none⟩ = some (.int .i64 0) := (cs_o (.inr (by omega))).trans (cs_s HE1.out.r0)
        have n1 : ((U.setCell ⟨w.heap.size + 1, 0, none⟩ (.int .i64 0)).setCell ⟨w.heap.size + 1, 1, none⟩ (.int .i64 0)).cell? ⟨w.heap.size + 1, 1, none⟩ = some (.int .i64 0) := cs_s (cell_ex HE1.out.r1)
        have nb := (HE1.out.below.setCell (p := ⟨w.heap.size + 1, 0, none⟩) (by show w.heap.size ≤ w.heap.size + 1; omega) (.int .i64 0)).setCell (p := ⟨w.heap.size + 1, 1, none⟩) (by show w.heap.size ≤ w.heap.size + 1; omega) (.int .i64 0)
        generalize World.setCell (World.setCell U _ _) _ _ = F at *
        refine bodyPost_ret (v := .tuple #[.agg #[.int .i64 0, .int .i64 0], .int .i64 9]) (by simp [results, Tryz.results17, go_sem, n0, n1]) rfl ⟨by rw [HZ.out], nb⟩
      · have HZ := hid (show whereP g rs = ((lo, hi), 0) from HZ3.out)
        go_upto_region 9 with fail
        generalize World.alloc w3 _ = U at *
        obtain ⟨z0, r0⟩ := HE1.out.r0
        obtain ⟨z1, r1⟩ := HE1.out.r1
        have fr := HE1.out.fr
        have lt0 := HE1.out.lt
        go_wp2_with fail
        have n0 : ((U.setCell ⟨w.heap.size + 1, 0, none⟩ (.int .i64 lo)).setCell ⟨w.heap.size + 1, 1, none⟩ (.int .i64 hi)).cell? ⟨w.heap.size + 1, 0, none⟩ = some (.int .i64 lo) := (cs_o (.inr (by omega))).trans (cs_s HE1.out.r0)
        have n1 : ((U.setCell ⟨w.heap.size + 1, 0, none⟩ (.int .i64 lo)).setCell ⟨w.heap.size + 1, 1, none⟩ (.int .i64 hi)).cell? ⟨w.heap.size + 1, 1, none⟩ = some (.int .i64 hi) := cs_s (cell_ex HE1.out.r1)
        have nb := (HE1.out.below.setCell (p := ⟨w.heap.size + 1, 0, none⟩) (by show w.heap.size ≤ w.heap.size + 1; omega) (.int .i64 lo)).setCell (p := ⟨w.heap.size + 1, 1, none⟩) (by show w.heap.size ≤ w.heap.size + 1; omega) (.int .i64 hi)
        generalize World.setCell (World.setCell U _ _) _ _ = F at *
        refine bodyPost_ret (v := .tuple #[.agg #[.int .i64 lo, .int .i64 hi], .int .i64 0]) (by simp [results, Tryz.results17, go_sem, n0, n1]) rfl ⟨by rw [HZ.out], nb⟩
    · have q3 : ((m : Int) != (n : Int)) = true := by simp; omega
      have HZ := hid (HZ1.out hx (by rw [HM.out, HN.out]; exact hmn))
      clear hx hmn
      go_wp2_with fail
      have n0 : ((w2.setCell ⟨w.heap.size + 1, 0, none⟩ (.int .i64 0)).setCell ⟨w.heap.size + 1, 1, none⟩ (.int .i64 0)).cell? ⟨w.heap.size + 1, 0, none⟩ = some (.int .i64 0) := (cs_o (.inr (by omega))).trans (cs_s HE1.out.r0)
      have n1 : ((w2.setCell ⟨w.heap.size + 1, 0, none⟩ (.int .i64 0)).setCell ⟨w.heap.size + 1, 1, none⟩ (.int .i64 0)).cell? ⟨w.heap.size + 1, 1, none⟩ = some (.int .i64 0) := cs_s (cell_ex HE1.out.r1)
      have nb := (HE1.out.below.setCell (p := ⟨w.heap.size + 1, 0, none⟩) (by show w.heap.size ≤ w.heap.size + 1; omega) (.int .i64 0)).setCell (p := ⟨w.heap.size + 1, 1, none⟩) (by show w.heap.size ≤ w.heap.size + 1; omega) (.int .i64 0)
      generalize World.setCell (World.setCell w2 _ _) _ _ = F at *
      refine bodyPost_ret (v := .tuple #[.agg #[.int .i64 0, .int .i64 0], .int .i64 2]) (by simp [results, Tryz.results17, go_sem, n0, n1]) rfl ⟨by rw [HZ.out], nb⟩
  · have q : (ge == 0) = false := by simp [hx]
    have q2 : (ge != 0) = true := by simp [hx]
    have HZ := hid (HZ0.out hx)
    clear hx
    go_wp2_with fail
    have n0 : ((w2.setCell ⟨w.heap.size + 1, 0, none⟩ (.int .i64 0)).setCell ⟨w.heap.size + 1, 1, none⟩ (.int .i64 0)).cell? ⟨w.heap.size + 1, 0, none⟩ = some (.int .i64 0) := (cs_o (.inr (by omega))).trans (cs_s HE1.out.r0)
    have n1 : ((w2.setCell ⟨w.heap.size + 1, 0, none⟩ (.int .i64 0)).setCell ⟨w.heap.size + 1, 1, none⟩ (.int .i64 0)).cell? ⟨w.heap.size + 1, 1, none⟩ = some (.int .i64 0) := cs_s (cell_ex HE1.out.r1)
    have nb := (HE1.out.below.setCell (p := ⟨w.heap.size + 1, 0, none⟩) (by show w.heap.size ≤ w.heap.size + 1; omega) (.int .i64 0)).setCell (p := ⟨w.heap.size + 1, 1, none⟩) (by show w.heap.size ≤ w.heap.size + 1; omega) (.int .i64 0)
    generalize World.setCell (World.setCell w2 _ _) _ _ = F at *
    refine bodyPost_ret (v := .tuple #[.agg #[.int .i64 0, .int .i64 0], .int .i64 ge]) (by simp [results, Tryz.results17, go_sem, n0, n1]) rfl ⟨by rw [HZ.out], nb⟩
set_option maxRecDepth 100000 in
set_option maxHeartbeats 4000000 in
theorem rSure_any (g : Gt) (p : GtP) (ra : Option Addr) (rs : List Int) (mc m : Nat) (w : World) (hm : rs.length = m) (hok : GtOk w p g) (hra : IntsAt w ra rs) :
    Calls Tryz.prog 19 #[.agg (gtL g p).toArray, .slice ra m mc] w fun e w' => e = .returned (.tuple #[.int .i64 (sureP g rs).1, .int .i64 (sureP g rs).2]) ∧ Below w.heap.size w w' := by
  have HE := hid (show sureP g rs = if (whereP g rs).2 ≠ 0 then (0, (whereP g rs).2) else if (whereP g rs).1.2 ≤ g.slack then (1, 0) else if g.travel - g.slack ≤ (whereP g rs).1.1 then (2, 0) else (0, 0) from rfl)
  have HGd := hid (fun h => gtGood (where_good (g := g) (rs := rs) h))
  have HW := hid (fun W (hW : Below w.heap.size w W) => rWhere_any g p ra rs mc m W hm (hok.later hW (Nat.le_refl _)) (hra.later hW (Nat.le_refl _)))
  clear hm hok hra
  obtain ⟨lo, hi, e', hwp⟩ : ∃ lo hi e', whereP g rs = ((lo, hi), e') := ⟨_, _, _, rfl⟩
  rw [hwp] at HE HGd HW
  dsimp only at HE HGd HW
  clear hwp
  have F0 := hid (FoW.start w g p 25)
  have R := F0.out.rows
  go_enter Tryz.func19, Tryz.ntmps19
  go_wp2_with (refine wpList_load_mid rfl 25 _ rfl _ 0 rfl (gtL g p) _ (R) Tryz.underlying25 rfl (by kernel_rfl) ?_)
  with_reducible refine (HW.out _ F0.out.below).mono ?_
  rintro e w1 ⟨rfl, hb⟩
  have BA := hid (bthen (bthen F0.out.below hb) ((Below.refl w1.heap.size w1).alloc (Nat.le_refl _) (.cells #[.int .i64 lo, .int .i64 hi] 50)))
  have hbA := hb.trans (((Below.refl w1.heap.size w1).alloc (Nat.le_refl _) (.cells #[.int .i64 lo, .int .i64 hi] 50)).mono hb.size)
  have R2 := range_later R hbA F0.out.lt
  have lt0 : w.heap.size < w1.heap.size := Nat.lt_of_lt_of_le F0.out.lt hb.size
  have p0 : (w1.alloc (.cells #[.int .i64 lo, .int .i64 hi] 50)).cell? ⟨w1.heap.size, 0, none⟩ = some (.int .i64 lo) := by simp [go_sem]
  have p1 : (w1.alloc (.cells #[.int .i64 lo, .int .i64 hi] 50)).cell? ⟨w1.heap.size, 1, none⟩ = some (.int .i64 hi) := by simp [go_sem]
  clear R hb hbA F0
  go_upto_region 2 with fail
  generalize World.alloc w1 _ = U at *
  have c2 := range_cell R2 (show (gtL g p)[2]? = some (.int .i64 g.travel) from rfl)
  have c18 := range_cell R2 (show (gtL g p)[18]? = some (.int .i64 g.slack) from rfl)
  clear R2
  by_cases hx : e' = 0
  · have q : (e' != 0) = false := by simp [hx]
    have hg := HGd.out hx
    have h1 := hg.travel
    have h2 := hg.slack
    have h4 : (g.travel - 1).tdiv 2 = (g.travel - 1) / 2 := Int.tdiv_eq_ediv_of_nonneg (by omega)
    have v1 : IntKind.i64.wrap (g.travel - g.slack) = g.travel - g.slack := IntWalk.i64_in _ (by omega)
    rw [if_neg (by simp [hx])] at HE
    clear hx hg h1 h2 h4
    by_cases c1 : hi ≤ g.slack
    · have HZ := hid (HE.out.trans (if_pos c1))
      have q1 : decide (hi ≤ g.slack) = true := by simp [c1]
      clear c1
      go_wp2_with fail
      go_ret2
      exact ⟨ret_two (by rw [HZ.out]) (by rw [HZ.out]), BA.out⟩
    · have q1 : decide (hi ≤ g.slack) = false := by simp; omega
      rw [if_neg c1] at HE
      clear c1
      by_cases d2 : g.travel - g.slack ≤ lo
      · have HZ := hid (HE.out.trans (if_pos d2))
        have q3 : decide (g.travel - g.slack ≤ lo) = true := by simp; omega
        clear d2
        go_wp2_with fail
        go_ret2
        exact ⟨ret_two (by rw [HZ.out]) (by rw [HZ.out]), BA.out⟩
      · have HZ := hid (HE.out.trans (if_neg d2))
        have q3 : decide (g.travel - g.slack ≤ lo) = false := by simp; omega
        clear d2
        go_wp2_with fail
        go_ret2
        exact ⟨ret_two (by rw [HZ.out]) (by rw [HZ.out]), BA.out⟩
  · have q : (e' != 0) = true := by simp [hx]
    have HZ := hid (HE.out.trans (if_pos hx))
    clear hx
    go_wp2_with fail
    go_ret2
    exact ⟨ret_two (by rw [HZ.out]) (by rw [HZ.out]), BA.out⟩
theorem boltEE_eq (g : Gt) (s : St) (on : Bool) (rs : List Int) : boltEE g s on rs = if gtE g ≠ 0 then gtE g else if stE g s ≠ 0 then stE g s else boltE g s on rs := by
  unfold boltEE
  by_cases h1 : gtE g = 0
  · by_cases h2 : stE g s = 0
    · by_cases h3 : boltE g s on rs = 0 <;> simp [firstAt, h1, h2, h3]
    · simp [firstAt, h1, h2]
  · simp [firstAt, h1]
/-- A gate, its state and the state that is returned, in memory. -/
structure BoW (w : World) (g : Gt) (p : GtP) (s : St) (x : World) : Prop where
  below : Below w.heap.size w x
  lt : w.heap.size + 1 + 1 < x.heap.size
  rows : x.rangeAt w.heap.size 0 (gtL g p)
  ss : x.rangeAt (w.heap.size + 1) 0 (stL s)
  r0 : ∃ z, x.cell? ⟨w.heap.size + 1 + 1, 0, none⟩ = some z
  r1 : ∃ z, x.cell? ⟨w.heap.size + 1 + 1, 1, none⟩ = some z
  r2 : ∃ z, x.cell? ⟨w.heap.size + 1 + 1, 2, none⟩ = some z
  fs : ∀ o, x.frozen? ⟨w.heap.size + 1, o, none⟩ = false
  fr : ∀ o, x.frozen? ⟨w.heap.size + 1 + 1, o, none⟩ = false
theorem BoW.later {w x y : World} {g : Gt} {p : GtP} {s : St} (h : BoW w g p s x) (hb : Below x.heap.size x y) : BoW w g p s y := by
  have hl := h.lt
  have c : ∀ b o, b < x.heap.size → y.cell? ⟨b, o, none⟩ = x.cell? ⟨b, o, none⟩ := fun b o hlt => hb.cell (p := ⟨b, o, none⟩) hlt
  have f : ∀ b o, b < x.heap.size → y.frozen? ⟨b, o, none⟩ = x.frozen? ⟨b, o, none⟩ := fun b o hlt => hb.frozen (p := ⟨b, o, none⟩) hlt
  exact ⟨bthen h.below hb, Nat.lt_of_lt_of_le hl hb.size, range_later h.rows hb (by omega), range_later h.ss hb (by omega), by rw [c _ _ (by omega)]; exact h.r0, by rw [c _ _ (by omega)]; exact h.r1, by rw [c _ _ (by omega)]; exact h.r2, fun o => (f _ _ (by omega)).trans (h.fs o), fun o => (f _ _ (by omega)).trans (h.fr o)⟩
theorem BoW.start (w : World) (g : Gt) (p : GtP) (s : St) : BoW w g p s (((w.alloc (.cells (gtL g p).toArray 25)).alloc (.cells #[.int .i64 s.pos, .int .i64 s.charge, .bool s.bolted] 27)).alloc (.cells #[.int .i64 0, .int .i64 0, .bool false] 27)) := by
  have H := DrW.start w g p s
  have f1 : ∀ o, ((w.alloc (.cells (gtL g p).toArray 25)).alloc (.cells #[.int .i64 s.pos, .int .i64 s.charge, .bool s.bolted] 27)).frozen? ⟨w.heap.size + 1, o, none⟩ = false := fun o => by simp [go_sem]
  have sz : ((w.alloc (.cells (gtL g p).toArray 25)).alloc (.cells #[.int .i64 s.pos, .int .i64 s.charge, .bool s.bolted] 27)).heap.size = w.heap.size + 1 + 1 := by simp
  generalize World.alloc (World.alloc w _) _ = X at *
  obtain ⟨h1, h2, h3⟩ := one_box (w := X) (cs := [.int .i64 0, .int .i64 0, .bool false]) (T := 27) (Below.refl _ _)
  have g1 : ∀ o, (X.alloc (.cells #[.int .i64 0, .int .i64 0, .bool false] 27)).frozen? ⟨X.heap.size, o, none⟩ = false := fun o => by simp [go_sem]
  have f : ∀ b o, b < X.heap.size → (X.alloc (.cells #[.int .i64 0, .int .i64 0, .bool false] 27)).frozen? ⟨b, o, none⟩ = X.frozen? ⟨b, o, none⟩ := fun b o hlt => h3.frozen (p := ⟨b, o, none⟩) hlt
  rw [sz] at h1 h2 g1
  have hl := H.lt
  exact ⟨bthen H.below h3, h2, range_later H.rows h3 (by omega), range_later H.ss h3 (by omega), ⟨.int .i64 0, range_cell h1 (show [_, _, _][0]? = some (Value.int .i64 0) from rfl)⟩, ⟨.int .i64 0, range_cell h1 (show [_, _, _][1]? = some (Value.int .i64 0) from rfl)⟩, ⟨.bool false, range_cell h1 (show [_, _, _][2]? = some (Value.bool false) from rfl)⟩, fun o => (f _ _ (by omega)).trans (f1 o), g1⟩
/-- The bolts are set, and the state is returned. -/
theorem BoW.fin {w x : World} {g : Gt} {p : GtP} {s : St} (h : BoW w g p s x) (v v0 v1 v2 : Value) :
    let y := (((x.setCell ⟨w.heap.size + 1, 2, none⟩ v).setCell ⟨w.heap.size + 1 + 1, 0, none⟩ v0).setCell ⟨w.heap.size + 1 + 1, 1, none⟩ v1).setCell ⟨w.heap.size + 1 + 1, 2, none⟩ v2
    Below w.heap.size w y ∧ y.cell? ⟨w.heap.size + 1 + 1, 0, none⟩ = some v0 ∧ y.cell? ⟨w.heap.size + 1 + 1, 1, none⟩ = some v1 ∧ y.cell? ⟨w.heap.size + 1 + 1, 2, none⟩ = some v2 := by
  intro y
  exact ⟨(((h.below.setCell (by show w.heap.size ≤ w.heap.size + 1; omega) _).setCell (by show w.heap.size ≤ w.heap.size + 1 + 1; omega) _).setCell (by show w.heap.size ≤ w.heap.size + 1 + 1; omega) _).setCell (by show w.heap.size ≤ w.heap.size + 1 + 1; omega) _,
    (cs_o (.inr (by omega))).trans ((cs_o (.inr (by omega))).trans (cs_s (cell_ex h.r0))), (cs_o (.inr (by omega))).trans (cs_s (cell_ex (cell_ex h.r1))), cs_s (cell_ex (cell_ex (cell_ex h.r2)))⟩
theorem BoW.zero {w x : World} {g : Gt} {p : GtP} {s : St} (h : BoW w g p s x) (v0 v1 v2 : Value) :
    let y := ((x.setCell ⟨w.heap.size + 1 + 1, 0, none⟩ v0).setCell ⟨w.heap.size + 1 + 1, 1, none⟩ v1).setCell ⟨w.heap.size + 1 + 1, 2, none⟩ v2
    Below w.heap.size w y ∧ y.cell? ⟨w.heap.size + 1 + 1, 0, none⟩ = some v0 ∧ y.cell? ⟨w.heap.size + 1 + 1, 1, none⟩ = some v1 ∧ y.cell? ⟨w.heap.size + 1 + 1, 2, none⟩ = some v2 := by
  intro y
  exact ⟨((h.below.setCell (by show w.heap.size ≤ w.heap.size + 1 + 1; omega) _).setCell (by show w.heap.size ≤ w.heap.size + 1 + 1; omega) _).setCell (by show w.heap.size ≤ w.heap.size + 1 + 1; omega) _,
    (cs_o (.inr (by omega))).trans ((cs_o (.inr (by omega))).trans (cs_s h.r0)), (cs_o (.inr (by omega))).trans (cs_s (cell_ex h.r1)), cs_s (cell_ex (cell_ex h.r2))⟩
set_option maxRecDepth 100000 in
set_option maxHeartbeats 8000000 in
theorem rBolt_any (g : Gt) (p : GtP) (s : St) (on : Bool) (ra : Option Addr) (rs : List Int) (mc m : Nat) (w : World) (hm : rs.length = m) (hok : GtOk w p g) (hra : IntsAt w ra rs) :
    Calls Tryz.prog 21 #[.agg (gtL g p).toArray, .agg #[.int .i64 s.pos, .int .i64 s.charge, .bool s.bolted], .bool on, .slice ra m mc] w fun e w' => e = .returned (.tuple #[.agg #[.int .i64 (boltP g s on rs).1.pos, .int .i64 (boltP g s on rs).1.charge, .bool (boltP g s on rs).1.bolted], .int .i64 (boltP g s on rs).2]) ∧ Below w.heap.size w w' := by
  obtain ⟨sp, sc, sb⟩ := s
  have HE := hid (show boltP g ⟨sp, sc, sb⟩ on rs = if boltEE g ⟨sp, sc, sb⟩ on rs ≠ 0 then (⟨0, 0, false⟩, boltEE g ⟨sp, sc, sb⟩ on rs) else (⟨sp, sc, on⟩, 0) from rfl)
  have HXX := hid (boltEE_eq g ⟨sp, sc, sb⟩ on rs)
  generalize boltEE g ⟨sp, sc, sb⟩ on rs = xx at *
  have HB := hid (show boltE g ⟨sp, sc, sb⟩ on rs = if on = false ∧ sb = false then 4 else if on = false then 0 else if sb = true then 5 else if (sureP g rs).2 = 0 ∧ (sureP g rs).1 = 0 then 9 else (sureP g rs).2 from rfl)
  have HSt := hid (fun W => rstate_any g p ⟨sp, sc, sb⟩ W)
  have HSu := hid (fun W (hW : Below w.heap.size w W) => rSure_any g p ra rs mc m W hm (hok.later hW (Nat.le_refl _)) (hra.later hW (Nat.le_refl _)))
  have HCk := hid (fun W (hW : Below w.heap.size w W) => rcheck_any g p W (hok.later hW (Nat.le_refl _)))
  have H0 := BoW.start w g p ⟨sp, sc, sb⟩
  clear hm hok hra
  generalize boltP g ⟨sp, sc, sb⟩ on rs = bp at *
  generalize boltE g ⟨sp, sc, sb⟩ on rs = be at *
  generalize stE g ⟨sp, sc, sb⟩ = se at *
  generalize sureP g rs = su at *
  dsimp only at HSt H0 ⊢
  go_enter Tryz.func21, Tryz.ntmps21
  go_upto_region 1 with fail
  generalize World.alloc (World.alloc (World.alloc w _) _) _ = W1 at *
  have H1 := hid H0
  clear H0
  have R := H1.out.rows
  go_wp2_with (refine wpList_load_mid rfl 25 _ rfl _ 0 rfl (gtL g p) _ (R) Tryz.underlying25 rfl (by kernel_rfl) ?_)
  refine (HCk.out _ H1.out.below).mono ?_
  rintro e w2 ⟨rfl, hb⟩
  have H2 := hid (H1.out.later hb)
  clear R H1 hb
  obtain ⟨k1, k2, ge, hge⟩ : ∃ a b c, gtP g = (a, b, c) := ⟨_, _, _, rfl⟩
  have hgE : gtE g = ge := by unfold gtE; rw [hge]
  rw [hge]
  rw [hgE] at HXX
  clear hge hgE
  dsimp only
  by_cases hx : ge = 0
  · have q : (ge == 0) = true := by simp [hx]
    rw [if_neg (by simp [hx])] at HXX
    clear hx
    have R := H2.out.rows
    have s0 := range_cell H2.out.ss (show (stL ⟨sp, sc, _⟩)[0]? = some (.int .i64 sp) from rfl)
    have s1 := range_cell H2.out.ss (show (stL ⟨sp, sc, _⟩)[1]? = some (.int .i64 sc) from rfl)
    have s2 := range_cell H2.out.ss (show (stL ⟨sp, sc, _⟩)[2]? = some (.bool _) from rfl)
    go_wp2_with (refine wpList_load_mid rfl 25 _ rfl _ 0 rfl (gtL g p) _ (R) Tryz.underlying25 rfl (by kernel_rfl) ?_)
    refine (HSt.out _).mono ?_
    rintro e w3 ⟨rfl, hb⟩
    have H3 := hid (H2.out.later hb)
    clear R s0 s1 s2 H2 hb
    have s0 := range_cell H3.out.ss (show (stL ⟨sp, sc, _⟩)[0]? = some (.int .i64 sp) from rfl)
    have s1 := range_cell H3.out.ss (show (stL ⟨sp, sc, _⟩)[1]? = some (.int .i64 sc) from rfl)
    have s2 := range_cell H3.out.ss (show (stL ⟨sp, sc, _⟩)[2]? = some (.bool _) from rfl)
    have R := H3.out.rows
    by_cases hy : se = 0
    · have q2 : (se == 0) = true := by simp [hy]
      have q2b : (se != 0) = false := by simp [hy]
      rw [if_neg (by simp [hy])] at HXX
      clear hy
      cases on
      · cases sb
        · have HZ := hid (show bp = (⟨0, 0, false⟩, 4) by rw [HE.out, HXX.out, HB.out]; rfl)
          have HF := hid (H3.out.zero (.int .i64 0) (.int .i64 0) (.bool false))
          have fr := H3.out.fr
          have lt0 := H3.out.lt
          obtain ⟨z0, r0⟩ := H3.out.r0
          obtain ⟨z1, r1⟩ := H3.out.r1
          obtain ⟨z2, r2⟩ := H3.out.r2
          go_wp2_with fail
          generalize World.setCell (World.setCell (World.setCell w3 _ _) _ _) _ _ = F at *
          obtain ⟨nb, n0, n1, n2⟩ := HF.out
          refine bodyPost_ret (v := .tuple #[.agg #[.int .i64 0, .int .i64 0, .bool false], .int .i64 4]) (by simp [results, Tryz.results21, go_sem, n0, n1, n2]) rfl ⟨by rw [HZ.out], nb⟩
        · have HZ := hid (show bp = (⟨sp, sc, false⟩, 0) by rw [HE.out, HXX.out, HB.out]; rfl)
          have HF := hid (H3.out.fin (.bool false) (.int .i64 sp) (.int .i64 sc) (.bool false))
          have fr := H3.out.fr
          have fs := H3.out.fs
          have lt0 := H3.out.lt
          obtain ⟨z0, r0⟩ := H3.out.r0
          obtain ⟨z1, r1⟩ := H3.out.r1
          obtain ⟨z2, r2⟩ := H3.out.r2
          go_wp2_with fail
          generalize World.setCell (World.setCell (World.setCell (World.setCell w3 _ _) _ _) _ _) _ _ = F at *
          obtain ⟨nb, n0, n1, n2⟩ := HF.out
          refine bodyPost_ret (v := .tuple #[.agg #[.int .i64 sp, .int .i64 sc, .bool false], .int .i64 0]) (by simp [results, Tryz.results21, go_sem, n0, n1, n2]) rfl ⟨by rw [HZ.out], nb⟩
      · cases sb
        · replace HB := hid (show be = if su.2 = 0 ∧ su.1 = 0 then 9 else su.2 by rw [HB.out]; simp)
          obtain ⟨su1, su2⟩ := su
          dsimp only at HB HSu
          clear s0 s1 s2
          have s0 := range_cell H3.out.ss (show (stL ⟨sp, sc, _⟩)[0]? = some (.int .i64 sp) from rfl)
          have s1 := range_cell H3.out.ss (show (stL ⟨sp, sc, _⟩)[1]? = some (.int .i64 sc) from rfl)
          have s2 := range_cell H3.out.ss (show (stL ⟨sp, sc, _⟩)[2]? = some (.bool _) from rfl)
          go_upto_region 9 with fail
          clear s0 s1 s2
          go_wp2_with (refine wpList_load_mid rfl 25 _ rfl _ 0 rfl (gtL g p) _ (R) Tryz.underlying25 rfl (by kernel_rfl) ?_)
          with_reducible refine (HSu.out _ H3.out.below).mono ?_
          rintro e w4 ⟨rfl, hb⟩
          have H4 := hid (H3.out.later hb)
          clear R hb H3
          by_cases he : su2 = 0
          · have q3 : (su2 == 0) = true := by simp [he]
            have q3b : (su2 != 0) = false := by simp [he]
            by_cases hn : su1 = 0
            · have q4 : (su1 == 0) = true := by simp [hn]
              have HZ := hid (show bp = (⟨0, 0, false⟩, 9) by rw [HE.out, HXX.out, show be = 9 from HB.out.trans (if_pos ⟨he, hn⟩)]; rfl)
              clear he hn
              have HF := hid (H4.out.zero (.int .i64 0) (.int .i64 0) (.bool false))
              have fr := H4.out.fr
              have lt0 := H4.out.lt
              obtain ⟨z0, r0⟩ := H4.out.r0
              obtain ⟨z1, r1⟩ := H4.out.r1
              obtain ⟨z2, r2⟩ := H4.out.r2
              go_wp2_with fail
              generalize World.setCell (World.setCell (World.setCell w4 _ _) _ _) _ _ = F at *
              obtain ⟨nb, n0, n1, n2⟩ := HF.out
              refine bodyPost_ret (v := .tuple #[.agg #[.int .i64 0, .int .i64 0, .bool false], .int .i64 9]) (by simp [results, Tryz.results21, go_sem, n0, n1, n2]) rfl ⟨by rw [HZ.out], nb⟩
            · have q4 : (su1 == 0) = false := by simp [hn]
              have HZ := hid (show bp = (⟨sp, sc, true⟩, 0) by rw [HE.out, HXX.out, show be = 0 from (HB.out.trans (if_neg (fun h => hn h.2))).trans he]; rfl)
              have HF := hid (H4.out.fin (.bool true) (.int .i64 sp) (.int .i64 sc) (.bool true))
              clear he hn
              have H3 := H4
              have s0 := range_cell H4.out.ss (show (stL ⟨sp, sc, _⟩)[0]? = some (.int .i64 sp) from rfl)
              have s1 := range_cell H4.out.ss (show (stL ⟨sp, sc, _⟩)[1]? = some (.int .i64 sc) from rfl)
              have s2 := range_cell H4.out.ss (show (stL ⟨sp, sc, _⟩)[2]? = some (.bool _) from rfl)
              have fr := H4.out.fr
              have fs := H4.out.fs
              have lt0 := H4.out.lt
              obtain ⟨z0, r0⟩ := H4.out.r0
              obtain ⟨z1, r1⟩ := H4.out.r1
              obtain ⟨z2, r2⟩ := H4.out.r2
              go_wp2_with fail
              generalize World.setCell (World.setCell (World.setCell (World.setCell w4 _ _) _ _) _ _) _ _ = F at *
              obtain ⟨nb, n0, n1, n2⟩ := HF.out
              refine bodyPost_ret (v := .tuple #[.agg #[.int .i64 sp, .int .i64 sc, .bool true], .int .i64 0]) (by simp [results, Tryz.results21, go_sem, n0, n1, n2]) rfl ⟨by rw [HZ.out], nb⟩
          · have q3 : (su2 == 0) = false := by simp [he]
            have q3b : (su2 != 0) = true := by simp [he]
            have HZ := hid (show bp = (⟨0, 0, false⟩, su2) by rw [HE.out, HXX.out, show be = su2 from HB.out.trans (if_neg (fun h => he h.1)), if_pos he])
            clear he
            have HF := hid (H4.out.zero (.int .i64 0) (.int .i64 0) (.bool false))
            have fr := H4.out.fr
            have lt0 := H4.out.lt
            obtain ⟨z0, r0⟩ := H4.out.r0
            obtain ⟨z1, r1⟩ := H4.out.r1
            obtain ⟨z2, r2⟩ := H4.out.r2
            go_wp2_with fail
            generalize World.setCell (World.setCell (World.setCell w4 _ _) _ _) _ _ = F at *
            obtain ⟨nb, n0, n1, n2⟩ := HF.out
            refine bodyPost_ret (v := .tuple #[.agg #[.int .i64 0, .int .i64 0, .bool false], .int .i64 su2]) (by simp [results, Tryz.results21, go_sem, n0, n1, n2]) rfl ⟨by rw [HZ.out], nb⟩
        · have HZ := hid (show bp = (⟨0, 0, false⟩, 5) by rw [HE.out, HXX.out, HB.out]; rfl)
          have HF := hid (H3.out.zero (.int .i64 0) (.int .i64 0) (.bool false))
          have fr := H3.out.fr
          have lt0 := H3.out.lt
          obtain ⟨z0, r0⟩ := H3.out.r0
          obtain ⟨z1, r1⟩ := H3.out.r1
          obtain ⟨z2, r2⟩ := H3.out.r2
          go_wp2_with fail
          generalize World.setCell (World.setCell (World.setCell w3 _ _) _ _) _ _ = F at *
          obtain ⟨nb, n0, n1, n2⟩ := HF.out
          refine bodyPost_ret (v := .tuple #[.agg #[.int .i64 0, .int .i64 0, .bool false], .int .i64 5]) (by simp [results, Tryz.results21, go_sem, n0, n1, n2]) rfl ⟨by rw [HZ.out], nb⟩
    · have q2 : (se == 0) = false := by simp [hy]
      have q2b : (se != 0) = true := by simp [hy]
      have HZ := hid (show bp = (⟨0, 0, false⟩, se) by rw [HE.out, HXX.out, if_pos hy, if_pos hy])
      clear hy
      have HF := hid (H3.out.zero (.int .i64 0) (.int .i64 0) (.bool false))
      have fr := H3.out.fr
      have lt0 := H3.out.lt
      obtain ⟨z0, r0⟩ := H3.out.r0
      obtain ⟨z1, r1⟩ := H3.out.r1
      obtain ⟨z2, r2⟩ := H3.out.r2
      go_wp2_with fail
      generalize World.setCell (World.setCell (World.setCell w3 _ _) _ _) _ _ = F at *
      obtain ⟨nb, n0, n1, n2⟩ := HF.out
      refine bodyPost_ret (v := .tuple #[.agg #[.int .i64 0, .int .i64 0, .bool false], .int .i64 se]) (by simp [results, Tryz.results21, go_sem, n0, n1, n2]) rfl ⟨by rw [HZ.out], nb⟩
  · have q : (ge == 0) = false := by simp [hx]
    have qb : (ge != 0) = true := by simp [hx]
    have HZ := hid (show bp = (⟨0, 0, false⟩, ge) by rw [HE.out, HXX.out, if_pos hx, if_pos hx])
    clear hx
    have HF := hid (H2.out.zero (.int .i64 0) (.int .i64 0) (.bool false))
    have fr := H2.out.fr
    have lt0 := H2.out.lt
    obtain ⟨z0, r0⟩ := H2.out.r0
    obtain ⟨z1, r1⟩ := H2.out.r1
    obtain ⟨z2, r2⟩ := H2.out.r2
    go_wp2_with fail
    generalize World.setCell (World.setCell (World.setCell w2 _ _) _ _) _ _ = F at *
    obtain ⟨nb, n0, n1, n2⟩ := HF.out
    refine bodyPost_ret (v := .tuple #[.agg #[.int .i64 0, .int .i64 0, .bool false], .int .i64 ge]) (by simp [results, Tryz.results21, go_sem, n0, n1, n2]) rfl ⟨by rw [HZ.out], nb⟩
end Go.Proofs.YtdoklolinbmhpaaGreat
