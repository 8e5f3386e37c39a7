/- Tide, part SG: the sweep: agreed. -/
import Derived.Test.YtblneiegekdnjaaSF
set_option linter.all false
namespace Go.Proofs.Ytblneiegekdnjaa
open Go.RowKit Go.Shelf

theorem A.infoTSpan : (Try.prog.info? 116).map (fun i => (i.zero, i.size, i.bytes)) = some (some (.agg #[.int .i64 0, .int .i64 0]), 2, 16) := by kernel_rfl
theorem sa_cell {W : World} {b j a o : Nat} {v : Value} {ob : Obj} (ha : a < W.heap.size) (h : a ≠ b ∨ o ≠ j) : ((W.setCell ⟨b, j, none⟩ v).alloc ob).cell? ⟨a, o, none⟩ = W.cell? ⟨a, o, none⟩ := by
  rw [World.cell?_alloc_lt _ _ _ (by simpa using ha), World.cell?_setCell_other _ _ _ _ (by intro e; injection e; omega)]
theorem sa_same {W : World} {b j : Nat} {u v : Value} {ob : Obj} (ha : b < W.heap.size) (h : W.cell? ⟨b, j, none⟩ = some u) : ((W.setCell ⟨b, j, none⟩ v).alloc ob).cell? ⟨b, j, none⟩ = some v := by
  rw [World.cell?_alloc_lt _ _ _ (by simpa using ha)]
  exact World.cell?_setCell_same' _ _ _ (by rw [h]; rfl)
theorem sa_frozen {W : World} {b j a o : Nat} {v : Value} {ob : Obj} (ha : a < W.heap.size) : ((W.setCell ⟨b, j, none⟩ v).alloc ob).frozen? ⟨a, o, none⟩ = W.frozen? ⟨a, o, none⟩ := by
  rw [((Below.refl (W.setCell ⟨b, j, none⟩ v).heap.size (W.setCell ⟨b, j, none⟩ v)).alloc (Nat.le_refl _) ob).frozen (p := ⟨a, o, none⟩) (by simpa using ha), World.frozen?_setCell]
theorem sa_below {B : Nat} {w W : World} {b j : Nat} {v : Value} {ob : Obj} (h : Below B w W) (hb : B ≤ b) (hB : B ≤ W.heap.size) : Below B w ((W.setCell ⟨b, j, none⟩ v).alloc ob) :=
  (h.setCell (p := ⟨b, j, none⟩) hb _).alloc (by simpa using hB) _
set_option maxRecDepth 100000 in
set_option maxHeartbeats 8000000 in
theorem agreed_any (a : Option Addr) (cap : Nat) (V : List Voice) (n : Int) (w : World) (hlen : V.length ≤ 8) (hok : ∀ v ∈ V, VoiceOk v) (hn1 : 1 ≤ n) (hn2 : n ≤ 8) (hV : VoicesAt w a V) :
    Calls Try.prog 75 #[.slice a V.length cap, .int .i64 n] w
      fun e w' => ∃ b c F, e = .returned (.slice b F.length c) ∧ SpansAt w' b F ∧ F.length ≤ 16 ∧ AgreedOk V n F ∧ Below w.heap.size w w' := by
  obtain ⟨i0, hi, hz0, hz1, hz2⟩ := info_parts A.infoTSpan
  have HOk := hid hok; have HV := hid hV; clear hok hV
  go_enter Try.func75, Try.ntmps75
  go_wp2_with fail
  generalize hW1 : World.alloc w _ = W1
  have B1 : Below w.heap.size w W1 := by rw [← hW1]; exact (Below.refl _ _).alloc (Nat.le_refl _) _
  have S1 : W1.heap.size = w.heap.size + 1 := by rw [← hW1]; simp
  have P0 := hid (show W1.cell? ⟨w.heap.size, 0, none⟩ = some (.int .i64 0) by rw [← hW1]; simp [go_sem])
  have P1 := hid (show W1.cell? ⟨w.heap.size, 1, none⟩ = some (.int .i64 0) by rw [← hW1]; simp [go_sem])
  have PF := hid (show ∀ o, W1.frozen? ⟨w.heap.size, o, none⟩ = false by intro o; rw [← hW1]; simp [go_sem])
  clear hW1
  refine (inOrder_any a cap V _ hlen (HV.out.later B1 (Nat.le_refl _))).mono ?_
  rintro e W2 ⟨b, c, E, rfl, hfr, hEl, hEs, hEp, hEo, B2⟩
  have l2 : w.heap.size + 1 ≤ W2.heap.size := by have := B2.size; omega
  have p0 := hid ((B2.cell (p := ⟨w.heap.size, 0, none⟩) (by show w.heap.size < _; omega)).trans P0.out)
  have p1 := hid ((B2.cell (p := ⟨w.heap.size, 1, none⟩) (by show w.heap.size < _; omega)).trans P1.out)
  have pf := hid (show ∀ o, W2.frozen? ⟨w.heap.size, o, none⟩ = false from fun o => (B2.frozen (p := ⟨w.heap.size, o, none⟩) (by show w.heap.size < _; omega)).trans (PF.out o))
  have BW2 : Below w.heap.size w W2 := B1.trans (B2.mono (by omega))
  have HAg := hid (agreedOk HOk.out hn1 hEp hEo)
  have HKind := hid (show ∀ i (h : i < E.length), E[i].2 = 0 ∨ E[i].2 = 1 from fun i h => endsOf_kind V _ (hEp.mem_iff.1 (List.getElem_mem h)))
  have HEl := hid hEl
  have hE16 : E.length ≤ 16 := by omega
  have hbl : ∀ ad, b = some ad → w.heap.size < ad.block := fun ad h => by have := hfr ad h; omega
  have HEs := hid hEs; have HBl := hid hbl
  clear P0 P1 PF B2 hEp hEo hEl hfr hEs hbl
  rw [← HEl.out]
  go_wp2_with fail
  obtain ⟨g, o, HC⟩ : ∃ g o : Nat, Hid (∀ i (h : i < E.length), b = some ⟨g, o, none⟩ ∧ (w.heap.size < g ∧ g < W2.heap.size) ∧ W2.cell? ⟨g, o + i * 2, none⟩ = some (.int .i64 E[i].1) ∧ W2.cell? ⟨g, o + i * 2 + 1, none⟩ = some (.int .i64 E[i].2)) := by
    rcases HEs.out with h0 | ⟨g, o, hb, hs, hc⟩
    · exact ⟨0, 0, hid (fun i h => by rw [h0] at h; simp at h)⟩
    · exact ⟨g, o, hid (fun i h => ⟨hb, ⟨HBl.out _ hb, hs⟩, hc i h⟩)⟩
  go_loopw [5, 6, 9, 10, 14] (fun s5 s6 _ _ i wr => ∃ (k : Nat) (v : Value) (Fk : List (Int × Int)) (f q0 q1 : Int), v = s5 ∧ s6 = .int .i64 f ∧ k ≤ E.length ∧ i = .int .i64 k ∧ (0 ≤ q0 ∧ q0 ≤ k ∧ 0 ≤ q1 ∧ q1 ≤ k) ∧ Fk.length ≤ k ∧
    Hid (wr.ownsRow W2.heap.size 116 2 v Fk.length (spanVals Fk)) ∧ Hid (sweep n E 0 0 = Fk ++ sweep n (E.drop k) (q0 - q1) f) ∧ Hid (wr.cell? ⟨w.heap.size, 0, none⟩ = some (.int .i64 q0) ∧ wr.cell? ⟨w.heap.size, 1, none⟩ = some (.int .i64 q1)) ∧ Hid (∀ o, wr.frozen? ⟨w.heap.size, o, none⟩ = false) ∧
    Hid (∀ i (h : i < E.length), wr.cell? ⟨g, o + i * 2, none⟩ = some (.int .i64 E[i].1) ∧ wr.cell? ⟨g, o + i * 2 + 1, none⟩ = some (.int .i64 E[i].2)) ∧ Below w.heap.size w wr ∧ Hid (W2.heap.size ≤ wr.heap.size)) (fun _ _ _ _ i _ => E.length - (intOf i).toNat)
  case atStart => exact ⟨0, _, [], 0, 0, 0, rfl, rfl, Nat.zero_le _, rfl, ⟨by omega, by omega, by omega, by omega⟩, by simp, hid (World.ownsRow_nil _ _ _ _), hid (by simp), hid ⟨p0.out, p1.out⟩, pf, hid (fun i h => (HC.out i h).2.2), BW2, hid (Nat.le_refl _)⟩
  case round =>
    obtain ⟨k, v, Fk, f, q0, q1, rfl, rfl, hk, rfl, ⟨hq00, hq01, hq10, hq11⟩, hFl, hown, hsw, hqc, hqf, hec, hbw, hsz⟩ := hrel
    by_cases hlt : k < E.length
    · obtain ⟨hbeq, ⟨hg1, hg2⟩, _⟩ := HC.out k hlt
      obtain ⟨x0, x1⟩ := hec.out k hlt
      have hkd := HKind.out k hlt
      have HDr := hid (show E.drop k = E[k] :: E.drop (k + 1) from List.drop_eq_getElem_cons hlt)
      have hkI : (k : Int) < (E.length : Int) := by omega
      have q00 := hqc.out.1
      have q11 := hqc.out.2
      have qf0 := hqf.out 0
      have qf1 := hqf.out 1
      have ls := hsz.out
      have lb : w.heap.size < wr.heap.size := by omega
      have lb' : w.heap.size ≠ wr.heap.size := by omega
      have lg : g < wr.heap.size := by omega
      have hEk := hid hec.out
      rw [hbeq]
      clear hec hbeq
      obtain ⟨x, hx⟩ : ∃ x, x = E[k] := ⟨_, rfl⟩
      rw [← hx] at x0 x1 hkd HDr
      clear hx
      obtain ⟨xa, xk⟩ := x
      simp only at x0 x1 hkd
      rcases hkd with rfl | rfl
      · by_cases hq : q0 - q1 = n - 1
        · have hq' : (q0 - q1 == n - 1) = true := by simp [hq]
          have HQ := hid hq; clear hq
          go_wp2_with fail
          refine ⟨⟨k + 1, _, Fk, xa, q0 + 1, q1, rfl, rfl, by omega, by go_num, ⟨by omega, by omega, by omega, by omega⟩, by omega, hid ?_, hid ?_, hid ⟨?_, ?_⟩, hid ?_, hid ?_, ?_, hid ?_⟩, by simp [intOf]; omega⟩
          · exact (ownsRow_set hown.out _ _ (ownsRow_lt hown.out (.inl (by show w.heap.size < W2.heap.size; omega)))).alloc _
          · rw [hsw.out, HDr.out, sweep, if_pos rfl, if_pos HQ.out, show q0 + 1 - q1 = q0 - q1 + 1 by omega]
          · exact sa_same lb q00
          · exact (sa_cell lb (.inr (by decide))).trans q11
          · intro o; exact (sa_frozen lb).trans (hqf.out o)
          · intro i h; exact ⟨(sa_cell lg (.inl (by omega))).trans (hEk.out i h).1, (sa_cell lg (.inl (by omega))).trans (hEk.out i h).2⟩
          · exact sa_below hbw (Nat.le_refl _) (by omega)
          · simp; omega
        · have hq' : (q0 - q1 == n - 1) = false := by simp [hq]
          have HQ := hid hq; clear hq
          go_wp2_with fail
          refine ⟨⟨k + 1, _, Fk, f, q0 + 1, q1, rfl, rfl, by omega, by go_num, ⟨by omega, by omega, by omega, by omega⟩, by omega, hid ?_, hid ?_, hid ⟨?_, ?_⟩, hid ?_, hid ?_, ?_, hid ?_⟩, by simp [intOf]; omega⟩
          · exact (ownsRow_set hown.out _ _ (ownsRow_lt hown.out (.inl (by show w.heap.size < W2.heap.size; omega)))).alloc _
          · rw [hsw.out, HDr.out, sweep, if_pos rfl, if_neg HQ.out, show q0 + 1 - q1 = q0 - q1 + 1 by omega]
          · exact sa_same lb q00
          · exact (sa_cell lb (.inr (by decide))).trans q11
          · intro o; exact (sa_frozen lb).trans (hqf.out o)
          · intro i h; exact ⟨(sa_cell lg (.inl (by omega))).trans (hEk.out i h).1, (sa_cell lg (.inl (by omega))).trans (hEk.out i h).2⟩
          · exact sa_below hbw (Nat.le_refl _) (by omega)
          · simp; omega
      · by_cases hq : q0 - q1 = n
        · have hq' : (q0 - q1 == n) = true := by simp [hq]
          have HQ := hid hq; clear hq
          go_wp2_with (first
            | (go_at_call 109; refine (between_at _ _ _).mono ?_; rintro e w' ⟨rfl, rfl⟩)
            | (at_builtin; refine wpList_append_own _ rfl _ _ 120 rfl W2.heap.size 116 i0 (.agg #[.int .i64 0, .int .i64 0]) 2 16 Try.underlying120 hi hz0 hz1 hz2 rfl (by decide) _ _ _ rfl (((hown.out.alloc _).alloc _).alloc _) ⟨wr.heap.size + 2, 0, none⟩ 1 1 [.int .i64 f, .int .i64 xa] rfl rfl (by intro j u hj; match j, hj with | 0, hj => simp at hj; subst hj; simp [Addr.add, go_sem] | 1, hj => simp at hj; subst hj; simp [Addr.add, go_sem]) (by intro u hu; simp at hu; rcases hu with rfl | rfl <;> rfl) (by unfold maxLen; omega) (by omega) (by simp; omega) ?_))
          intro v' w1 hown' hgrow _
          have bV : Below W2.heap.size wr w1 := ((((Below.refl _ _).alloc ls _).alloc (by simp; omega) _).alloc (by simp; omega) _).trans (below_own (((hown.out.alloc _).alloc _).alloc _) (Nat.le_refl _) (by simp; omega) hgrow)
          have HO := hid hown'
          have q00 := (bV.cell (p := ⟨w.heap.size, 0, none⟩) (by show w.heap.size < _; omega)).trans hqc.out.1
          have q11 := (bV.cell (p := ⟨w.heap.size, 1, none⟩) (by show w.heap.size < _; omega)).trans hqc.out.2
          have qfF := hid (show ∀ o, w1.frozen? ⟨w.heap.size, o, none⟩ = false from fun o => (bV.frozen (p := ⟨w.heap.size, o, none⟩) (by show w.heap.size < _; omega)).trans (hqf.out o))
          have qf1 := qfF.out 1
          have x1' := hid (show ∀ i (h : i < E.length), w1.cell? ⟨g, o + i * 2, none⟩ = some (.int .i64 E[i].1) ∧ w1.cell? ⟨g, o + i * 2 + 1, none⟩ = some (.int .i64 E[i].2) from fun i h => ⟨(bV.cell (p := ⟨g, o + i * 2, none⟩) hg2).trans (hEk.out i h).1, (bV.cell (p := ⟨g, o + i * 2 + 1, none⟩) hg2).trans (hEk.out i h).2⟩)
          have hxw : w1.cell? ⟨wr.heap.size, 1, none⟩ = some (.int .i64 1) := by
            refine hgrow.cell (v := .int .i64 1) ?_ ?_
            · simp [go_sem]
            · intro e
              have := (hown.out.lt _ e.symm).2
              simp at this
          have bV' : Below w.heap.size w w1 := hbw.trans (bV.mono (by omega))
          have lw1 : wr.heap.size < w1.heap.size := by have := hgrow.size; simp at this; omega
          obtain ⟨gn, cp, rfl⟩ := ownsRow_succ hown'
          clear hown' hgrow
          go_wp2_with fail
          refine ⟨⟨k + 1, _, Fk ++ [(f, xa)], f, q0, q1 + 1, rfl, rfl, by omega, by go_num, ⟨by omega, by omega, by omega, by omega⟩, by simp; omega, hid ?_, hid ?_, hid ⟨?_, ?_⟩, hid ?_, hid ?_, ?_, hid ?_⟩, by simp [intOf]; omega⟩
          · have e : spanVals (Fk ++ [(f, xa)]) = spanVals Fk ++ [.int .i64 f, .int .i64 xa] := by simp [spanVals]
            rw [e]
            have := ownsRow_set HO.out ⟨w.heap.size, 1, none⟩ (.int .i64 (q1 + 1)) (ownsRow_lt HO.out (.inl (by show w.heap.size < W2.heap.size; omega)))
            simpa using this
          · rw [hsw.out, HDr.out, sweep, if_neg (by simp), if_pos HQ.out, show q0 - (q1 + 1) = q0 - q1 - 1 by omega, List.append_assoc]; rfl
          · exact (World.cell?_setCell_other _ _ _ _ (by intro e; injection e; omega)).trans q00
          · exact World.cell?_setCell_same' _ _ _ (by rw [q11]; rfl)
          · intro o; rw [World.frozen?_setCell]; exact qfF.out o
          · intro i h; exact ⟨(World.cell?_setCell_other _ _ _ _ (by intro e; injection e; omega)).trans (x1'.out i h).1, (World.cell?_setCell_other _ _ _ _ (by intro e; injection e; omega)).trans (x1'.out i h).2⟩
          · exact bV'.setCell (p := ⟨w.heap.size, 1, none⟩) (Nat.le_refl _) _
          · simp; omega
        · have hq' : (q0 - q1 == n) = false := by simp [hq]
          have HQ := hid hq; clear hq
          go_wp2_with fail
          refine ⟨⟨k + 1, _, Fk, f, q0, q1 + 1, rfl, rfl, by omega, by go_num, ⟨by omega, by omega, by omega, by omega⟩, by omega, hid ?_, hid ?_, hid ⟨?_, ?_⟩, hid ?_, hid ?_, ?_, hid ?_⟩, by simp [intOf]; omega⟩
          · exact (ownsRow_set hown.out _ _ (ownsRow_lt hown.out (.inl (by show w.heap.size < W2.heap.size; omega)))).alloc _
          · rw [hsw.out, HDr.out, sweep, if_neg (by simp), if_neg HQ.out, show q0 - (q1 + 1) = q0 - q1 - 1 by omega]
          · exact (sa_cell lb (.inr (by decide))).trans q00
          · exact sa_same lb q11
          · intro o; exact (sa_frozen lb).trans (hqf.out o)
          · intro i h; exact ⟨(sa_cell lg (.inl (by omega))).trans (hEk.out i h).1, (sa_cell lg (.inl (by omega))).trans (hEk.out i h).2⟩
          · exact sa_below hbw (Nat.le_refl _) (by omega)
          · simp; omega
    · obtain rfl : k = E.length := by omega
      have hs := hsw.out
      rw [List.drop_length, sweep, List.append_nil] at hs
      obtain ⟨fa, fc, hv, hFs⟩ := spansAt_of_own hown.out
      subst hv
      have hA := HAg.out
      rw [hs] at hA
      have HA := hid hA; have HF := hid hFs
      clear hs hA hFs hown
      go_wp2_with fail
      go_ret
      exact ⟨_, _, Fk, rfl, HF.out, by omega, HA.out, hbw⟩
end Go.Proofs.Ytblneiegekdnjaa
