/- Gate, part WP: Delay, where the lengths fit. -/
import Derived.Test.YtpgggffcpcjahaaWO
set_option linter.all false
namespace Go.Proofs.Ytpgggffcpcjahaa
open Go.RowKit

theorem toClose_any (o i : Int) (p : Bool) (w : World) :
    Calls Try.prog 65 #[.int .i64 o, .int .i64 i, .bool p] w fun e w' => e = .returned (.agg #[.int .i64 1, .bool p, .int .i64 o, .int .i64 i]) ∧ Below w.heap.size w w' := by
  go_enter Try.func65, Try.ntmps65
  go_wp2_with fail
  exact bodyPost_ret (v := .agg #[.int .i64 1, .bool p, .int .i64 o, .int .i64 i]) (by simp [results, Try.results65, go_sem]) rfl ⟨rfl, (Below.refl _ _).alloc (Nat.le_refl _) _⟩
theorem keepDl {w x y : World} {a b : Value} (hxy : Below x.heap.size x y) (h : Below w.heap.size w x ∧ x.cell? ⟨w.heap.size, 0, none⟩ = some a ∧ x.cell? ⟨w.heap.size, 1, none⟩ = some b ∧ w.heap.size < x.heap.size) : Below w.heap.size w y ∧ y.cell? ⟨w.heap.size, 0, none⟩ = some a ∧ y.cell? ⟨w.heap.size, 1, none⟩ = some b ∧ w.heap.size < y.heap.size := by
  obtain ⟨h0, h1, h2, h3⟩ := h
  exact ⟨h0.trans (hxy.mono h0.size), (hxy.cell (p := ⟨w.heap.size, 0, none⟩) h3).trans h1, (hxy.cell (p := ⟨w.heap.size, 1, none⟩) h3).trans h2, Nat.lt_of_lt_of_le h3 hxy.size⟩
theorem Try.infoBool : (Try.prog.info? 4).map (fun i => (i.zero, i.size, i.bytes)) = some (some (.bool false), 1, 1) := by kernel_rfl
theorem rows_rep {w : World} {A n : Nat} {t : Sp} (hA : A < w.heap.size) (h : ∀ j, j < n → w.rangeAt A (j * 4) (spL t)) : RowsL (fun _ s => spL s) 4 w (some ⟨A, 0, none⟩) (List.replicate n t) :=
  .inr ⟨A, 0, rfl, hA, fun i hi => by
    rw [List.getElem_replicate, Nat.zero_add]; exact h i (by simpa using hi)⟩
theorem rows_no {w : World} {A n : Nat} (hA : A < w.heap.size) (h : ∀ j, j < n → w.cell? ⟨A, j, none⟩ = some (.bool false)) : RowsL (fun _ b => [.bool b]) 1 w (some ⟨A, 0, none⟩) (List.replicate n false) :=
  .inr ⟨A, 0, rfl, hA, fun i hi j v hv => by
    have hj : j = 0 := by have := (List.getElem?_eq_some_iff.1 hv).1; simpa using this
    subst hj
    rw [List.getElem_replicate] at hv
    have hv' : v = .bool false := by simpa using hv.symm
    rw [hv']
    have := h i (by simpa using hi)
    simpa using this⟩
theorem stsGood {gs : List Gt} {ss : List St} {ts : List Sp} {n : Nat} (hn : gs.length = n) (ls : ss.length = n) (lt : ts.length = n) (h : stsP gs ss ts n = 0) : ∀ i, i < n → StGood (gs.getD i default) (ss.getD i default) ∧ SpGood (ts.getD i default) := by
  intro i hi
  unfold stsP at h
  rw [firstAt_all] at h
  simp only [List.mem_cons, List.not_mem_nil, or_false, forall_eq_or_imp, forall_eq, each_all0] at h
  exact spGoods (h.2 i (Nat.zero_le _) (by omega))
theorem search_bd (gs : List Gt) (rs : List Ru) (ts : List Sp) (hs : List Bool) : ∀ (f n : Nat) (ss : List St), 0 ≤ (searchF gs rs ts hs n f ss).1 ∧ (searchF gs rs ts hs n f ss).1 ≤ n + f
  | 0, n, ss => by unfold searchF; split <;> simp <;> omega
  | f + 1, n, ss => by
    unfold searchF
    split
    · simp; omega
    · have := search_bd gs rs ts hs f (n + 1) (nextF gs rs ss ts hs); omega
set_option maxRecDepth 100000 in
set_option maxHeartbeats 8000000 in
theorem delayEq_any (ga sa ra : Option Addr) (gs : List Gt) (rs : List Ru) (ss : List St) (gc sc rc n : Nat) (ps : Nat → GtP) (o i : Int) (p : Bool) (w : World) (hn : gs.length = n) (hok : SetOk w ⟨ga, gs, gc, ps, ra, rs, rc⟩) (hss : RowsL (fun _ s => stL s) 3 w sa ss) (ls : ss.length = n) :
    Calls Try.prog 36 #[.agg #[.slice ga n gc, .slice ra rs.length rc], .slice sa n sc, .int .i64 o, .int .i64 i, .bool p] w fun e w' => e = .returned (.tuple #[.int .i64 (delayP gs rs ss o i p).1, .int .i64 (delayP gs rs ss o i p).2]) ∧ Below w.heap.size w w' := by
  have HE := hid (show delayP gs rs ss o i p = if (setP gs rs).2.2 ≠ 0 then (0, (setP gs rs).2.2) else if stsP gs ss (List.replicate n (toCloseT o i p)) n ≠ 0 then (0, stsP gs ss (List.replicate n (toCloseT o i p)) n) else (upq (searchF gs rs (List.replicate n (toCloseT o i p)) (List.replicate n false) 0 2000 ss).1 10, (searchF gs rs (List.replicate n (toCloseT o i p)) (List.replicate n false) 0 2000 ss).2) by unfold delayP; rw [hn])
  have HGd := hid (fun h => setGood (gs := gs) (rs := rs) h)
  have HOk := hid hok; have HSs := hid hss; have HLg := hid hn; have HLs := hid ls
  have B1 : Below w.heap.size w (w.alloc (.cells #[.slice ga n gc, .slice ra rs.length rc] 25)) := (Below.refl _ _).alloc (Nat.le_refl _) _
  have z0 : (w.alloc (.cells #[.slice ga n gc, .slice ra rs.length rc] 25)).cell? ⟨w.heap.size, 0, none⟩ = some (.slice ga n gc) := by simp [go_sem]
  have z1 : (w.alloc (.cells #[.slice ga n gc, .slice ra rs.length rc] 25)).cell? ⟨w.heap.size, 1, none⟩ = some (.slice ra rs.length rc) := by simp [go_sem]
  have sw : w.heap.size < (w.alloc (.cells #[.slice ga n gc, .slice ra rs.length rc] 25)).heap.size := by simp
  have HC := hid (fun W (hW : Below w.heap.size w W) => checkSet_any ⟨ga, gs, gc, ps, ra, rs, rc⟩ W (HOk.out.later hW (Nat.le_refl _)))
  dsimp only at HC
  rw [hn] at HC
  clear hok hss hn ls
  obtain ⟨i0, hi, hz0, hz1, hz2⟩ := info_parts Try.infoBool
  go_enter Try.func36, Try.ntmps36
  go_wp2_with fail
  generalize World.alloc w _ = W1 at *
  refine (HC.out _ B1).mono ?_
  rintro e w1 ⟨rfl, hb⟩
  obtain ⟨BW, z0, z1, sw⟩ := keepDl hb ⟨B1, z0, z1, sw⟩
  clear HC B1 hb
  generalize setP gs rs = x at *
  by_cases hx : x.2.2 = 0
  · have q : (x.2.2 != 0) = false := by simp [hx]
    have HX := hid hx
    have HG := hid (HGd.out hx)
    have hn16 : 1 ≤ n ∧ n ≤ 6 := by have := HG.out.glen; rw [HLg.out] at this; exact this
    have HN := hid hn16
    clear hx
    go_wp2_with fail
    refine wp_region_noPanic ?_
    refine wp_region_held_drew (S := (fun w' => Below w.heap.size w w' ∧ w'.cell? ⟨w.heap.size, 0, none⟩ = some (.slice ga n gc) ∧ w'.cell? ⟨w.heap.size, 1, none⟩ = some (.slice ra rs.length rc) ∧ w.heap.size < w'.heap.size)) (by kernel_rfl) ?_ (fun hHeld => ?_)
    · exact ⟨BW.drew, by simpa using z0, by simpa using z1, by simpa using sw⟩
    refine wpAnyH_take (i := 0) (oi := { dst := _, op := _, type := _, pos := _, after := _, guard := _ }) (v := ?_) rfl (by kernel_rfl) (by kernel_rfl) (by kernel_rfl) (fun _ _ _ h => h) (Or.inl ⟨by rfl, ?_⟩) (by assumption) ?_
    rotate_left
    · intro wS hSw; (try dsimp only at hSw); go_simp; try (with_reducible rfl)
    try simp only [Act.put, List.setIfInBounds_toArray, List.set_cons_zero, List.set_cons_succ]
    refine wpAnyH_take (i := 1) (oi := { dst := _, op := _, type := _, pos := _, after := _, guard := _ }) (v := ?_) rfl (by kernel_rfl) (by kernel_rfl) (by kernel_rfl) (fun _ _ _ h => h) (Or.inl ⟨by rfl, ?_⟩) (by assumption) ?_
    rotate_left
    · intro wS hSw; (try dsimp only at hSw); go_simp; try (with_reducible rfl)
    try simp only [Act.put, List.setIfInBounds_toArray, List.set_cons_zero, List.set_cons_succ]
    refine wpAnyH_take (i := 2) (oi := { dst := _, op := _, type := _, pos := _, after := _, guard := _ }) (v := ?_) rfl (by kernel_rfl) (by kernel_rfl) (by kernel_rfl) (fun _ _ _ h => h) (Or.inl ⟨by rfl, ?_⟩) (by assumption) ?_
    rotate_left
    · intro wS hSw; (try dsimp only at hSw); go_simp; try (with_reducible rfl)
    try simp only [Act.put, List.setIfInBounds_toArray, List.set_cons_zero, List.set_cons_succ]
    refine wpAnyH_take (i := 5) (oi := { dst := _, op := _, type := _, pos := _, after := _, guard := _ }) (v := ?_) rfl (by kernel_rfl) (by kernel_rfl) (by kernel_rfl) (fun _ _ _ h => h) (Or.inl ⟨by rfl, ?_⟩) (by assumption) ?_
    rotate_left
    · intro wS hSw; (try dsimp only at hSw); go_simp; try (with_reducible rfl)
    try simp only [Act.put, List.setIfInBounds_toArray, List.set_cons_zero, List.set_cons_succ]
    refine wpAnyH_take (i := 6) (oi := { dst := _, op := _, type := _, pos := _, after := _, guard := _ }) (v := ?_) rfl (by kernel_rfl) (by kernel_rfl) (by kernel_rfl) (fun _ _ _ h => h) (Or.inl ⟨by rfl, ?_⟩) (by assumption) ?_
    rotate_left
    · intro wS hSw; (try dsimp only at hSw); go_simp; try (with_reducible rfl)
    try simp only [Act.put, List.setIfInBounds_toArray, List.set_cons_zero, List.set_cons_succ]
    refine wpAnyH_take (i := 7) (oi := { dst := _, op := _, type := _, pos := _, after := _, guard := _ }) (v := ?_) rfl (by kernel_rfl) (by kernel_rfl) (by kernel_rfl) (fun _ _ _ h => h) (Or.inl ⟨by rfl, ?_⟩) (by assumption) ?_
    rotate_left
    · intro wS hSw; (try dsimp only at hSw); go_simp; try (with_reducible rfl)
    try simp only [Act.put, List.setIfInBounds_toArray, List.set_cons_zero, List.set_cons_succ]
    refine wpAnyH_ready (rs := [3]) (by kernel_rfl) (by simp) ?_
    refine AllReadyH.cons (o := { dst := _, op := _, type := _, pos := _, after := _, guard := _ }) rfl (fun K hK => ?_) AllReadyH.nil
    go_simp
    (go_at_call 65; (with_reducible refine (toClose_any o i p _).mono ?_); rintro e w' ⟨rfl, hbe⟩; have HRb := hid (range_alloc w' (spL (toCloseT o i p)) 50))
    try go_wp2_with fail
    refine hK.out _ _ ?_ (fun hHeld => ?_)
    · (try dsimp only); first | exact keepDl (by assumption) hHeld | exact keepDl ((Below.refl _ _).alloc (Nat.le_refl _) _) hHeld
    clear hK K
    try simp only [Act.put, List.setIfInBounds_toArray, List.set_cons_zero, List.set_cons_succ]
    refine wpAnyH_ready (rs := [4]) (by kernel_rfl) (by simp) ?_
    refine AllReadyH.cons (o := { dst := _, op := _, type := _, pos := _, after := _, guard := _ }) rfl (fun K hK => ?_) AllReadyH.nil
    go_simp
    refine hK.out _ _ ?_ (fun hHeld => ?_)
    · (try dsimp only); first | exact keepDl (by assumption) hHeld | exact keepDl ((Below.refl _ _).alloc (Nat.le_refl _) _) hHeld
    clear hK K
    try simp only [Act.put, List.setIfInBounds_toArray, List.set_cons_zero, List.set_cons_succ]
    refine wpAnyH_ready (rs := [8]) (by kernel_rfl) (by simp) ?_
    refine AllReadyH.cons (o := { dst := _, op := _, type := _, pos := _, after := _, guard := _ }) rfl (fun K hK => ?_) AllReadyH.nil
    go_simp
    (go_at_call 84; obtain ⟨V, hV⟩ : ∃ V, V = w' := ⟨_, rfl⟩; subst hV; refine (repeat_any V.heap.size n (toCloseT o i p) _ hn16 (by simp) HRb.out).mono ?_; rintro e w' ⟨A, rfl, hA, hrep, hbe⟩)
    try go_wp2_with fail
    refine hK.out _ _ ?_ (fun hHeld => ?_)
    · (try dsimp only); first | exact keepDl (by assumption) hHeld | exact keepDl ((Below.refl _ _).alloc (Nat.le_refl _) _) hHeld
    clear hK K
    try simp only [Act.put, List.setIfInBounds_toArray, List.set_cons_zero, List.set_cons_succ]
    refine wpAnyH_take (i := 9) (oi := { dst := _, op := _, type := _, pos := _, after := _, guard := _ }) (v := ?_) rfl (by kernel_rfl) (by kernel_rfl) (by kernel_rfl) (fun _ _ _ h => h) (Or.inl ⟨by rfl, ?_⟩) (by assumption) ?_
    rotate_left
    · intro wS hSw; (try dsimp only at hSw); go_simp; try (with_reducible rfl)
    try simp only [Act.put, List.setIfInBounds_toArray, List.set_cons_zero, List.set_cons_succ]
    refine wpAnyH_done (by kernel_rfl) ?_ _
    refine NoPanic.normal ?_

    obtain ⟨BW2, y0, y1, sw2⟩ := (by assumption : Below w.heap.size w _ ∧ _ ∧ _ ∧ _)
    obtain ⟨W4, hW4⟩ : ∃ X, X = w' := ⟨_, rfl⟩
    subst hW4
    have HTs := hid (rows_rep hA hrep)
    obtain ⟨t, ht⟩ : ∃ t, toCloseT o i p = t := ⟨_, rfl⟩
    rw [ht] at HTs HE
    clear z0 z1 sw hrep HRb hbe hHeld ht BW hA
    go_wp2_with (at_make; refine wpList_make_full _ rfl _ _ _ rfl W4.heap.size 4 i0 (.bool false) 1 Try.underlying64 hi hz0 hz1 .i64 .i64 _ _ n rfl rfl rfl rfl (by rw [hz2]; omega) (by unfold maxLen; omega) (Nat.le_refl _) ?_; intro W5 hown hgrow; have x0 : W5.cell? ⟨w.heap.size, 0, none⟩ = some (.slice ga n gc) := hgrow.cell y0 (by simp); have x1 : W5.cell? ⟨w.heap.size, 1, none⟩ = some (.slice ra rs.length rc) := hgrow.cell y1 (by simp))
    have B5 : Below W4.heap.size W4 W5 := (Below.refl _ _).grown hgrow (Nat.le_refl _) (by intro k e; cases e)
    have BW5 := BW2.trans (B5.mono BW2.size)
    have S5 : W4.heap.size < W5.heap.size := (hown.lt _ rfl).2
    have HHs := hid (rows_no (n := n) S5 (fun j hj => by rw [hown.cellAt j (by omega), show (Value.bool false).cells = #[Value.bool false] from rfl, toList_madeCells_one, Nat.mul_one, List.getElem?_replicate, if_pos hj]))
    have HT5 := hid (HTs.out.later B5 (Nat.le_refl _))
    generalize W4.heap.size = C at *
    clear hown hgrow hi hz0 hz1 hz2 B5 BW2 y0 y1 HTs
    have sw5 := Nat.lt_of_lt_of_le sw2 (Nat.le_refl _)
    refine (stepsErrorEq_any ga sa (some ⟨A, 0, none⟩) (some ⟨C, 0, none⟩) ra gs rs ss (List.replicate n t) gc sc n n rc n ps W5 HLg.out (by omega) (HOk.out.gates.at_.later BW5 (Nat.le_refl _)) (HSs.out.later BW5 (Nat.le_refl _)) HT5.out HLs.out (by simp)).mono ?_
    rintro e w6 ⟨rfl, hb6⟩
    obtain ⟨BW6, v0, v1, -⟩ := keepDl hb6 ⟨BW5, x0, x1, by omega⟩
    have HT6 := hid (HT5.out.later hb6 (Nat.le_refl _))
    have HH6 := hid (HHs.out.later hb6 (Nat.le_refl _))
    clear x0 x1 hb6 HT5 HHs
    have HGs := hid (fun h => stsGood (gs := gs) (ss := ss) (ts := List.replicate n t) HLg.out HLs.out (by simp) h)
    generalize stsP gs ss (List.replicate n t) n = y at *
    by_cases hy : y = 0
    · have q2 : (y != 0) = false := by simp [hy]
      have HY := hid hy
      have HSS := hid (stepsToShut_any ga sa (some ⟨A, 0, none⟩) (some ⟨C, 0, none⟩) ra gs rs ss (List.replicate n t) (List.replicate n false) gc sc n n rc n ps w6 HLg.out (HOk.out.gates.at_.later BW6 (Nat.le_refl _)) (fun i h => (HOk.out.gates.ok i h).later BW6 (Nat.le_refl _)) (HOk.out.rules.later BW6 (Nat.le_refl _)) (HSs.out.later BW6 (Nat.le_refl _)) HT6.out HH6.out HLs.out (by simp) (by simp) HG.out (fun i hi => (HGs.out hy i hi).1) (fun i hi => (HGs.out hy i hi).2))
      have hsb := search_bd gs rs (List.replicate n t) (List.replicate n false) 2000 0 ss
      generalize searchF gs rs (List.replicate n t) (List.replicate n false) 0 2000 ss = r at *
      have HU := hid (fun W => roundUp_any r.1 10 W ⟨by omega, by omega⟩ (by decide))
      clear hy hsb
      go_wp2_with fail
      refine (HSS.out).mono ?_
      rintro e w7 ⟨rfl, hb7⟩
      have BW7 := BW6.trans (hb7.mono BW6.size)
      clear v0 v1 hb7
      go_wp2_with ((with_reducible refine (HU.out _).mono ?_); rintro e w' ⟨rfl, rfl⟩)
      go_ret2
      exact ⟨ret_two (by rw [HE.out, if_neg (by simp [HX.out]), if_neg (by simp [HY.out])]) (by rw [HE.out, if_neg (by simp [HX.out]), if_neg (by simp [HY.out])]), BW7⟩
    · have q2 : (y != 0) = true := by simp [hy]
      have HY := hid hy
      clear hy
      go_wp2_with fail
      go_ret2
      exact ⟨ret_two (by rw [HE.out, if_neg (by simp [HX.out]), if_pos HY.out]) (by rw [HE.out, if_neg (by simp [HX.out]), if_pos HY.out]), BW6⟩
  · have q : (x.2.2 != 0) = true := by simp [hx]
    have HX := hid hx
    clear hx
    go_wp2_with fail
    go_ret2
    exact ⟨ret_two (by rw [HE.out, if_pos HX.out]) (by rw [HE.out, if_pos HX.out]), BW⟩
end Go.Proofs.Ytpgggffcpcjahaa
