/- Gate, part LI: the walk of GateInTime. -/
import Derived.Test.YtpgggffcpcjahaaLF
import Derived.Test.YtpgggffcpcjahaaYB
set_option linter.all false
namespace Go.Proofs.Ytpgggffcpcjahaa
open Go.RowKit

/-- A gate, its state and one more argument of a few cells, in memory. -/
structure GsW (w : World) (g : Gt) (p : GtP) (s : St) (cs : List Value) (x : World) : Prop where
  below : Below w.heap.size w x
  lt : w.heap.size + 1 + 1 < x.heap.size
  rows : x.rangeAt w.heap.size 0 (gtL g p)
  ss : x.rangeAt (w.heap.size + 1) 0 (stL s)
  cs : x.rangeAt (w.heap.size + 1 + 1) 0 cs
theorem GsW.laterB {w x y : World} {g : Gt} {p : GtP} {s : St} {cs : List Value} {B : Nat} (h : GsW w g p s cs x) (hb : Below B x y) (hB : w.heap.size + 1 + 1 < B) : GsW w g p s cs y :=
  ⟨h.below.trans (hb.mono (by omega)), Nat.lt_of_lt_of_le h.lt hb.size, range_later h.rows hb (by omega), range_later h.ss hb (by omega), range_later h.cs hb (by omega)⟩
theorem GsW.later {w x y : World} {g : Gt} {p : GtP} {s : St} {cs : List Value} (h : GsW w g p s cs x) (hb : Below x.heap.size x y) : GsW w g p s cs y := h.laterB hb h.lt
theorem GsW.start (w : World) (g : Gt) (p : GtP) (s : St) (cs : List Value) (T : TypeId) : GsW w g p s cs (((w.alloc (.cells (gtL g p).toArray 33)).alloc (.cells #[.int .i64 s.pos, .int .i64 s.charge, .bool s.bolted] 44)).alloc (.cells cs.toArray T)) := by
  have hA : Below w.heap.size w (w.alloc (.cells (gtL g p).toArray 33)) := (Below.refl _ _).alloc (Nat.le_refl _) _
  have R0 := range_alloc w (gtL g p) 33
  have sA : (w.alloc (.cells (gtL g p).toArray 33)).heap.size = w.heap.size + 1 := by simp
  generalize w.alloc (.cells (gtL g p).toArray 33) = A at *
  have R1 := range_alloc A (stL s) 44
  have hB : Below A.heap.size A (A.alloc (.cells (stL s).toArray 44)) := (Below.refl _ _).alloc (Nat.le_refl _) _
  have R0' := range_later R0 hB (by omega)
  show GsW w g p s cs ((A.alloc (.cells (stL s).toArray 44)).alloc (.cells cs.toArray T))
  have sB : (A.alloc (.cells (stL s).toArray 44)).heap.size = w.heap.size + 1 + 1 := by simp [sA]
  generalize A.alloc (.cells (stL s).toArray 44) = B at *
  have R2 := range_alloc B cs T
  have hC : Below B.heap.size B (B.alloc (.cells cs.toArray T)) := (Below.refl _ _).alloc (Nat.le_refl _) _
  rw [sA] at R1
  rw [sB] at R2
  exact ⟨bthen (bthen hA hB) hC, by simp [sB], range_later R0' hC (by omega), range_later R1 hC (by omega), R2⟩
theorem time_ok {g : Gt} {s : St} {o i : Int} {pw : Bool} (h : (timeP g s o i pw).2 = 0) : gtE g = 0 ∧ spE g s (toCloseT o i pw) = 0 ∧ ∃ j : Nat, (timeP g s o i pw).1 = j ∧ j ≤ 2000 ∧ (itF g (toCloseT o i pw) j s).pos = g.travel ∧ ∀ i', i' < j → (itF g (toCloseT o i pw) i' s).pos ≠ g.travel := by
  unfold timeP at h ⊢
  by_cases h0 : gtE g = 0
  · rw [if_neg (by simp [h0])] at h ⊢
    by_cases h1 : spE g s (toCloseT o i pw) = 0
    · rw [if_neg (by simp [h1])] at h ⊢
      rcases search_one g (toCloseT o i pw) 2000 0 s with ⟨j, a1, a2, a3, a4⟩ | ⟨a1, a2⟩
      · exact ⟨h0, h1, j, by rw [a4]; simp, a1, a2, a3⟩
      · rw [a2] at h; cases h
    · rw [if_pos h1] at h; exact absurd h h1
  · rw [if_pos h0] at h; exact absurd h h0
theorem run_rep {g : Gt} {s : St} {t : Sp} (h0 : gtE g = 0) (h1 : spE g s t = 0) {N : Nat} (hN : N ≤ 2000) : runE g s (List.replicate N t) = 0 := by
  obtain ⟨hs, ht⟩ := spGoods h1
  unfold runE
  rw [firstAt_all]
  simp only [List.mem_cons, List.not_mem_nil, or_false, forall_eq_or_imp, forall_eq, each_all0]
  rw [must_zero (by decide)]
  refine ⟨h0, by simp; omega, stE_ok hs, fun i _ hi => ?_⟩
  have hi' : i < N := by simpa using hi
  rw [show (List.replicate N t).getD i default = t by simp [List.getD, hi']]
  exact ordE_ok ht
theorem rep_snoc {α : Type} (k : Nat) (x : α) : List.replicate (k + 1) x = List.replicate k x ++ [x] := List.replicate_succ'
theorem scan_rep (g : Gt) (s : St) (t : Sp) {N k : Nat} (h : k < N) (h' : k < (scanF g s (List.replicate N t)).length) : (scanF g s (List.replicate N t))[k] = itF g t (k + 1) s := by
  have := scan_get g (List.replicate N t) s k (by simpa using h)
  rw [show (scanF g s (List.replicate N t)).getD k default = (scanF g s (List.replicate N t))[k] by simp [List.getD, h']] at this
  rw [this, List.take_replicate, last_replicate, Nat.min_eq_left (by omega)]
set_option maxRecDepth 100000 in
set_option maxHeartbeats 8000000 in
theorem lawInTime_any (g : Gt) (p : GtP) (s : St) (o i : Int) (pw : Bool) (w : World) (hok : GtOk w p g) :
    Calls Try.prog 12 #[.agg (gtL g p).toArray, .agg #[.int .i64 s.pos, .int .i64 s.charge, .bool s.bolted], .agg #[.int .i64 o, .int .i64 i, .bool pw]] w fun e w' => e = .returned (.bool true) ∧ Below w.heap.size w w' := by
  have HOk := hid hok
  clear hok
  have H0 := hid (GsW.start w g p s [.int .i64 o, .int .i64 i, .bool pw] 69)
  have R1 := H0.out.rows
  have s0 := range_cell H0.out.ss (show (stL s)[0]? = some (.int .i64 s.pos) from rfl)
  have s1 := range_cell H0.out.ss (show (stL s)[1]? = some (.int .i64 s.charge) from rfl)
  have s2 := range_cell H0.out.ss (show (stL s)[2]? = some (.bool s.bolted) from rfl)
  have x0 := range_cell H0.out.cs (show [_, _, _][0]? = some (.int .i64 o) from rfl)
  have x1 := range_cell H0.out.cs (show [_, _, _][1]? = some (.int .i64 i) from rfl)
  have x2 := range_cell H0.out.cs (show [_, _, _][2]? = some (.bool pw) from rfl)
  have HT := hid (fun W (hW : GtOk W p g) => time_any g p s o i pw W hW)
  have HTo := hid (fun h => time_ok (g := g) (s := s) (o := o) (i := i) (pw := pw) h)
  generalize timeP g s o i pw = q at *
  obtain ⟨qn, qe⟩ := q
  dsimp only at HT HTo
  obtain ⟨i0, hi, hz0, hz1, hz2⟩ := info_parts Try.infoSp
  go_enter Try.func12, Try.ntmps12
  go_wp2_with (refine wpList_load_mid rfl 33 _ rfl _ 0 rfl (gtL g p) _ (R1) Try.underlying33 rfl (by kernel_rfl) ?_)
  refine (HT.out _ (HOk.out.later H0.out.below (Nat.le_refl _))).mono ?_
  rintro e w1 ⟨rfl, hb⟩
  have H1 := hid (H0.out.later hb)
  clear s0 s1 s2 x0 x1 x2 hb R1 H0
  by_cases hq : qe ≠ 0 ∨ 300 < qn ∨ qn < 0
  · rcases (show qe ≠ 0 ∨ (qe = 0 ∧ 300 < qn) ∨ (qe = 0 ∧ ¬ 300 < qn ∧ qn < 0) by omega) with h | ⟨h, h2⟩ | ⟨h, h2, h3⟩
    · have c1 : (qe != 0) = true := by simp [h]
      clear h hq
      go_wp2_with fail
      refine (awake_any _).mono ?_
      rintro e w9 ⟨rfl, hb9⟩
      go_wp2_with fail
      go_ret
      exact ⟨rfl, bthen H1.out.below hb9⟩
    · have c1 : (qe != 0) = false := by simp [h]
      have c2 : decide (300 < qn) = true := by simp [h2]
      clear h h2 hq
      go_wp2_with fail
      refine (awake_any _).mono ?_
      rintro e w9 ⟨rfl, hb9⟩
      go_wp2_with fail
      go_ret
      exact ⟨rfl, bthen H1.out.below hb9⟩
    · have c1 : (qe != 0) = false := by simp [h]
      have c2 : decide (300 < qn) = false := by simp [h2]
      have c3 : decide (qn < 0) = true := by simp [h3]
      clear h h2 h3 hq
      go_wp2_with fail
      refine (awake_any _).mono ?_
      rintro e w9 ⟨rfl, hb9⟩
      go_wp2_with fail
      go_ret
      exact ⟨rfl, bthen H1.out.below hb9⟩
  · have hqe : qe = 0 := by omega
    obtain ⟨g0, g1, j, hj, -, hj1, hj2⟩ := HTo.out hqe
    subst hj
    subst hqe
    have hj3 : j ≤ 300 := by omega
    obtain ⟨N, hN⟩ : ∃ N, N = j + 3 := ⟨_, rfl⟩
    have HN := hid hN
    obtain ⟨T, hT⟩ : ∃ T, toCloseT o i pw = T := ⟨_, rfl⟩
    have HTT := hid hT
    rw [hT] at g1 hj1 hj2
    have HRun := hid (run_rep g0 g1 (N := N) (by omega))
    have HGo := hid (gtGood g0); have HSt := hid (spGoods g1).1
    have HJ := hid (And.intro hj1 hj2)
    have v1 : IntKind.i64.wrap ((j : Int) + 3) = (N : Int) := by rw [hN]; exact IntWalk.i64_in _ (by omega)
    have c1 : decide (300 < (j : Int)) = false := by simp; omega
    have c2 : decide ((j : Int) < 0) = false := by simp
    have HN5 := hid (show N ≤ 303 by omega)
    clear hq g0 g1 hj1 hj2 hT hN hj3 HTo HT
    go_wp2_with fail
    obtain ⟨X, hX⟩ : ∃ X, w1.heap.size = X := ⟨_, rfl⟩
    have lX : w.heap.size + 1 + 1 < X := by rw [← hX]; exact H1.out.lt
    go_loopw [9, 10] (fun v jv wr => ∃ k : Nat, k ≤ N ∧ jv = .int .i64 k ∧ Hid (wr.ownsRow X 50 4 v k ((List.replicate k T).flatMap spL)) ∧ Hid (GsW w g p s [.int .i64 o, .int .i64 i, .bool pw] wr) ∧ X ≤ wr.heap.size) (fun _ jv _ => N - (intOf jv).toNat)
    case atStart => exact ⟨0, Nat.zero_le _, rfl, hid (World.ownsRow_nil _ _ _ _), hid H1.out, by omega⟩
    case round =>
      obtain ⟨k, hk, rfl, hown, HW, hXr⟩ := hrel
      have s0 := range_cell HW.out.ss (show (stL s)[0]? = some (.int .i64 s.pos) from rfl)
      have s1 := range_cell HW.out.ss (show (stL s)[1]? = some (.int .i64 s.charge) from rfl)
      have s2 := range_cell HW.out.ss (show (stL s)[2]? = some (.bool s.bolted) from rfl)
      have x0 := range_cell HW.out.cs (show [_, _, _][0]? = some (.int .i64 o) from rfl)
      have x1 := range_cell HW.out.cs (show [_, _, _][1]? = some (.int .i64 i) from rfl)
      have x2 := range_cell HW.out.cs (show [_, _, _][2]? = some (.bool pw) from rfl)
      have lw := HW.out.lt
      by_cases hlt : k < N
      · have HSn := hid (rep_snoc k T)
        have hN5 := HN5.out
        go_wp2_with (at_builtin; refine wpList_append_own _ rfl _ _ 63 rfl X 50 i0 (.agg #[.int .i64 0, .bool false, .int .i64 0, .int .i64 0]) 4 32 Try.underlying63 hi hz0 hz1 hz2 rfl (by decide) _ _ _ rfl (hown.out.alloc _) ⟨wr.heap.size, 0, none⟩ 1 1 [.int .i64 1, .bool pw, .int .i64 o, .int .i64 i] rfl rfl (by intro j x hj; match j, hj with | 0, hj => simp at hj; subst hj; simp [Addr.add, go_sem] | 1, hj => simp at hj; subst hj; simp [Addr.add, go_sem] | 2, hj => simp at hj; subst hj; simp [Addr.add, go_sem] | 3, hj => simp at hj; subst hj; simp [Addr.add, go_sem]) (by intro x hx; simp at hx; rcases hx with rfl | rfl | rfl | rfl <;> rfl) (by unfold maxLen; omega) (by omega) (by simp; omega) ?_)
        intro v' w4 hown' hgrow _
        have HW5 := hid ((HW.out.later ((Below.refl _ _).alloc (Nat.le_refl _) _)).laterB (below_own (hown.out.alloc _) (Nat.le_refl _) (by simp; omega) hgrow) lX)
        have hs5 : X ≤ w4.heap.size := by
          have := hgrow.size
          simp at this
          omega
        have HO := hid (show w4.ownsRow X 50 4 v' (k + 1) ((List.replicate (k + 1) T).flatMap spL) by rw [HSn.out, List.flatMap_append, ← HTT.out]; rw [← HTT.out] at hown'; exact hown')
        clear hown' hown hgrow HW s0 s1 s2 x0 x1 x2 lw
        go_wp2_with fail
        refine ⟨⟨k + 1, by omega, by go_num, HO, HW5, hs5⟩, by simp [intOf]; omega⟩
      · obtain rfl : k = N := by omega
        clear s0 s1 s2 x0 x1 x2
        obtain ⟨la, lc, hv, hrows⟩ := rows_of_own (L := spL) (size := 4) (fun _ => rfl) (l := List.replicate k T) (by simpa using hown.out)
        rw [List.length_replicate] at hv
        subst hv
        have HRw := hid hrows
        clear hrows hown
        have HRn := hid (run_any g p s la (List.replicate k T) lc k wr (by simp) (by have := HN5.out; omega) (HOk.out.later HW.out.below (Nat.le_refl _)) HRw.out)
        rw [show runL g s (List.replicate k T) = scanF g s (List.replicate k T) by unfold runL; rw [if_pos HRun.out], HRun.out, show (scanF g s (List.replicate k T)).length = k by rw [scan_len]; simp] at HRn
        have R2 := HW.out.rows
        have s0 := range_cell HW.out.ss (show (stL s)[0]? = some (.int .i64 s.pos) from rfl)
        have s1 := range_cell HW.out.ss (show (stL s)[1]? = some (.int .i64 s.charge) from rfl)
        have s2 := range_cell HW.out.ss (show (stL s)[2]? = some (.bool s.bolted) from rfl)
        have z1 : ¬ k < k := Nat.lt_irrefl _
        go_wp2_with (refine wpList_load_mid rfl 33 _ rfl _ 0 rfl (gtL g p) _ (R2) Try.underlying33 rfl (by kernel_rfl) ?_)
        refine HRn.out.mono ?_
        rintro e w3 ⟨ma, mc, rfl, hmr, hb3⟩
        have H3 := hid (HW.out.later hb3)
        have HMr := hid hmr
        clear s0 s1 s2 R2 HRn HW hmr hb3
        go_wp2_with fail
        go_loopw [12] (fun jv wr => ∃ m : Nat, m ≤ k ∧ jv = .int .i64 m ∧ Hid (Below w3.heap.size w3 wr)) (fun jv _ => k - (intOf jv).toNat)
        case atStart => exact ⟨0, Nat.zero_le _, rfl, hid (Below.refl _ _)⟩
        case round =>
          obtain ⟨m, hm, rfl, hbw⟩ := hrel
          by_cases hlt2 : m < k
          · have hml : m < (scanF g s (List.replicate k T)).length := by rw [scan_len]; simpa using hlt2
            obtain ⟨b, o2, rfl, hb, hat⟩ := HMr.out.row (by omega)
            have Rt := range_later (hat m hml) hbw.out hb
            rw [scan_rep g s T hlt2 hml] at Rt
            have y0 : wr.cell? ⟨b, o2 + m * 3, none⟩ = some (.int .i64 (itF g T (m + 1) s).pos) := by simpa using Rt 0 _ (show (stL _)[0]? = some (.int .i64 _) from rfl)
            have k2 := range_cell (H3.out.later hbw.out).rows (show (gtL g p)[2]? = some (.int .i64 g.travel) from rfl)
            have hI : (m : Int) < (k : Int) := by omega
            have hI0 : (0 : Int) ≤ (m : Int) := Int.natCast_nonneg _
            have vm : IntKind.i64.wrap ((m : Int) + 1) = (m : Int) + 1 := IntWalk.i64_in _ (by have := HN5.out; omega)
            have hiff : (itF g T (m + 1) s).pos = g.travel ↔ j ≤ m + 1 := by
              constructor
              · intro h
                rcases Nat.lt_or_ge (m + 1) j with hl | hl
                · exact absurd h (HJ.out.2 _ hl)
                · exact hl
              · intro h
                have := HJ.out.1
                rw [← HTT.out] at this ⊢
                exact it_stays HGo.out HSt.out o i pw h this
            generalize (itF g T (m + 1) s).pos = x at *
            clear Rt hat
            by_cases hc : j ≤ m + 1
            · have d1 : (x == g.travel) = true := by simp [hiff.2 hc]
              have d2 : decide ((j : Int) ≤ (m : Int) + 1) = true := by simp; omega
              clear hiff hc
              go_wp2_with fail
              go_quiet (fail)
              have HB := hid (below_drewN hbw.out nq)
              clear hbw y0 k2
              go_wp2_with fail
              refine ⟨⟨m + 1, by omega, by go_num, HB⟩, by simp [intOf]; omega⟩
            · have d1 : (x == g.travel) = false := by simp; intro e; exact hc (hiff.1 e)
              have d2 : decide ((j : Int) ≤ (m : Int) + 1) = false := by simp; omega
              clear hiff hc
              go_wp2_with fail
              go_quiet (fail)
              have HB := hid (below_drewN hbw.out nq)
              clear hbw y0 k2
              go_wp2_with fail
              refine ⟨⟨m + 1, by omega, by go_num, HB⟩, by simp [intOf]; omega⟩
          · obtain rfl : m = k := by omega
            have BF := bthen H3.out.below hbw.out
            go_wp2_with fail
            refine (awake_any _).mono ?_
            rintro e w9 ⟨rfl, hb9⟩
            go_wp2_with fail
            go_ret
            exact ⟨rfl, bthen BF hb9⟩
end Go.Proofs.Ytpgggffcpcjahaa
