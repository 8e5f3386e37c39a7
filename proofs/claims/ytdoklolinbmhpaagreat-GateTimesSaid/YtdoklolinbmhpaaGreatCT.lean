/- Gate, part CT: the reference's Time. -/
import Derived.Test.YtdoklolinbmhpaaGreatCI
set_option linter.all false
namespace Go.Proofs.YtdoklolinbmhpaaGreat
open Go.RowKit

theorem search_at {g : Gt} {t : Sp} {s : St} {k : Nat} (hk : k ≤ 2000) (h : (itF g t k s).pos = g.travel) (hb : ∀ j, j < k → (itF g t j s).pos ≠ g.travel) : searchF [g] [] [t] [false] 0 2000 [s] = ((k : Int), 0) := by
  rcases search_one g t 2000 0 s with ⟨j, a1, a2, a3, a4⟩ | ⟨a1, -⟩
  · have : j = k := by
      rcases Nat.lt_trichotomy j k with h1 | h1 | h1
      · exact absurd a2 (hb j h1)
      · exact h1
      · exact absurd h (a3 k h1)
    rw [a4, this]; simp
  · exact absurd h (a1 k hk)
theorem search_no {g : Gt} {t : Sp} {s : St} (hb : ∀ j, j ≤ 2000 → (itF g t j s).pos ≠ g.travel) : searchF [g] [] [t] [false] 0 2000 [s] = (0, 9) := by
  rcases search_one g t 2000 0 s with ⟨j, a1, a2, a3, a4⟩ | ⟨-, a2⟩
  · exact absurd a2 (hb j a1)
  · exact a2
/-- The three boxes of Time in memory; the state's box may be written. -/
structure TiW (w : World) (g : Gt) (p : GtP) (t : Sp) (x : World) : Prop where
  below : Below w.heap.size w x
  lt : w.heap.size + 1 + 1 < x.heap.size
  rows : x.rangeAt w.heap.size 0 (gtL g p)
  ts : x.rangeAt (w.heap.size + 1 + 1) 0 (spL t)
  fs : ∀ o, x.frozen? ⟨w.heap.size + 1, o, none⟩ = false
  s0 : ∃ z, x.cell? ⟨w.heap.size + 1, 0, none⟩ = some z
  s1 : ∃ z, x.cell? ⟨w.heap.size + 1, 1, none⟩ = some z
  s2 : ∃ z, x.cell? ⟨w.heap.size + 1, 2, none⟩ = some z
theorem TiW.later {w x y : World} {g : Gt} {p : GtP} {t : Sp} (h : TiW w g p t x) (hb : Below x.heap.size x y) : TiW w g p t y := by
  have hl := h.lt
  have c : ∀ o, y.cell? ⟨w.heap.size + 1, o, none⟩ = x.cell? ⟨w.heap.size + 1, o, none⟩ := fun o => hb.cell (p := ⟨w.heap.size + 1, o, none⟩) (by show w.heap.size + 1 < _; omega)
  exact ⟨bthen h.below hb, Nat.lt_of_lt_of_le hl hb.size, range_later h.rows hb (by omega), range_later h.ts hb (by omega), fun o => (hb.frozen (p := ⟨w.heap.size + 1, o, none⟩) (by show w.heap.size + 1 < x.heap.size; omega)).trans (h.fs o), by rw [c]; exact h.s0, by rw [c]; exact h.s1, by rw [c]; exact h.s2⟩
theorem TiW.drew {w x : World} {g : Gt} {p : GtP} {t : Sp} (h : TiW w g p t x) : TiW w g p t x.drew :=
  ⟨h.below.drew, by simpa using h.lt, fun j v hv => by simpa using h.rows j v hv, fun j v hv => by simpa using h.ts j v hv, fun o => by simpa using h.fs o, by simpa using h.s0, by simpa using h.s1, by simpa using h.s2⟩
theorem TiW.start (w : World) (g : Gt) (p : GtP) (s : St) (t : Sp) : TiW w g p t (((w.alloc (.cells (gtL g p).toArray 25)).alloc (.cells #[.int .i64 s.pos, .int .i64 s.charge, .bool s.bolted] 27)).alloc (.cells #[.int .i64 t.order, .bool t.power, .int .i64 t.outer, .int .i64 t.inner] 35)) := by
  have H := LwW.start w g p s t
  have f1 : ∀ o, (((w.alloc (.cells (gtL g p).toArray 25)).alloc (.cells #[.int .i64 s.pos, .int .i64 s.charge, .bool s.bolted] 27)).alloc (.cells #[.int .i64 t.order, .bool t.power, .int .i64 t.outer, .int .i64 t.inner] 35)).frozen? ⟨w.heap.size + 1, o, none⟩ = false := fun o => by simp [go_sem]
  exact ⟨H.below, H.lt, H.rows, H.ts, f1, ⟨_, range_cell H.ss (show (stL s)[0]? = some (.int .i64 s.pos) from rfl)⟩, ⟨_, range_cell H.ss (show (stL s)[1]? = some (.int .i64 s.charge) from rfl)⟩, ⟨_, range_cell H.ss (show (stL s)[2]? = some (.bool s.bolted) from rfl)⟩⟩
/-- The state's box is written. -/
theorem TiW.set {w x : World} {g : Gt} {p : GtP} {t : Sp} (h : TiW w g p t x) (v0 v1 v2 : Value) : TiW w g p t (((x.setCell ⟨w.heap.size + 1, 0, none⟩ v0).setCell ⟨w.heap.size + 1, 1, none⟩ v1).setCell ⟨w.heap.size + 1, 2, none⟩ v2) ∧
    (((x.setCell ⟨w.heap.size + 1, 0, none⟩ v0).setCell ⟨w.heap.size + 1, 1, none⟩ v1).setCell ⟨w.heap.size + 1, 2, none⟩ v2).rangeAt (w.heap.size + 1) 0 [v0, v1, v2] := by
  have o : ∀ b j, b ≠ w.heap.size + 1 → (((x.setCell ⟨w.heap.size + 1, 0, none⟩ v0).setCell ⟨w.heap.size + 1, 1, none⟩ v1).setCell ⟨w.heap.size + 1, 2, none⟩ v2).cell? ⟨b, j, none⟩ = x.cell? ⟨b, j, none⟩ := fun b j hb => (cs_o (.inl hb)).trans ((cs_o (.inl hb)).trans (cs_o (.inl hb)))
  have a0 : (((x.setCell ⟨w.heap.size + 1, 0, none⟩ v0).setCell ⟨w.heap.size + 1, 1, none⟩ v1).setCell ⟨w.heap.size + 1, 2, none⟩ v2).cell? ⟨w.heap.size + 1, 0, none⟩ = some v0 := (cs_o (.inr (by omega))).trans ((cs_o (.inr (by omega))).trans (cs_s h.s0))
  have a1 : (((x.setCell ⟨w.heap.size + 1, 0, none⟩ v0).setCell ⟨w.heap.size + 1, 1, none⟩ v1).setCell ⟨w.heap.size + 1, 2, none⟩ v2).cell? ⟨w.heap.size + 1, 1, none⟩ = some v1 := (cs_o (.inr (by omega))).trans (cs_s (cell_ex h.s1))
  have a2 : (((x.setCell ⟨w.heap.size + 1, 0, none⟩ v0).setCell ⟨w.heap.size + 1, 1, none⟩ v1).setCell ⟨w.heap.size + 1, 2, none⟩ v2).cell? ⟨w.heap.size + 1, 2, none⟩ = some v2 := cs_s (cell_ex (cell_ex h.s2))
  refine ⟨⟨((h.below.setCell (by show w.heap.size ≤ w.heap.size + 1; omega) _).setCell (by show w.heap.size ≤ w.heap.size + 1; omega) _).setCell (by show w.heap.size ≤ w.heap.size + 1; omega) _, by simpa using h.lt, fun j v hv => (o _ _ (by omega)).trans (h.rows j v hv), fun j v hv => (o _ _ (by omega)).trans (h.ts j v hv), fun o => by simpa using h.fs o, ⟨_, a0⟩, ⟨_, a1⟩, ⟨_, a2⟩⟩, fun j v hv => ?_⟩
  have hj : j < 3 := (List.getElem?_eq_some_iff.1 hv).1
  rw [Nat.zero_add]
  match j, hj with
  | 0, _ => rw [a0]; simpa using hv
  | 1, _ => rw [a1]; simpa using hv
  | 2, _ => rw [a2]; simpa using hv
theorem keepTi {w x y : World} {g : Gt} {p : GtP} {t : Sp} (hb : Below x.heap.size x y) (h : TiW w g p t x ∧ x.cell? ⟨w.heap.size + 1 + 1, 0, none⟩ = some (.int .i64 t.order) ∧ x.cell? ⟨w.heap.size + 1 + 1, 1, none⟩ = some (.bool t.power) ∧ x.cell? ⟨w.heap.size + 1 + 1, 2, none⟩ = some (.int .i64 t.outer) ∧ x.cell? ⟨w.heap.size + 1 + 1, 3, none⟩ = some (.int .i64 t.inner)) : TiW w g p t y ∧ y.cell? ⟨w.heap.size + 1 + 1, 0, none⟩ = some (.int .i64 t.order) ∧ y.cell? ⟨w.heap.size + 1 + 1, 1, none⟩ = some (.bool t.power) ∧ y.cell? ⟨w.heap.size + 1 + 1, 2, none⟩ = some (.int .i64 t.outer) ∧ y.cell? ⟨w.heap.size + 1 + 1, 3, none⟩ = some (.int .i64 t.inner) := by
  have hl := h.1.lt
  have c : ∀ o, y.cell? ⟨w.heap.size + 1 + 1, o, none⟩ = x.cell? ⟨w.heap.size + 1 + 1, o, none⟩ := fun o => hb.cell (p := ⟨w.heap.size + 1 + 1, o, none⟩) hl
  exact ⟨h.1.later hb, (c _).trans h.2.1, (c _).trans h.2.2.1, (c _).trans h.2.2.2.1, (c _).trans h.2.2.2.2⟩
theorem TiW.all {w x : World} {g : Gt} {p : GtP} {t : Sp} (h : TiW w g p t x) : TiW w g p t x ∧ x.cell? ⟨w.heap.size + 1 + 1, 0, none⟩ = some (.int .i64 t.order) ∧ x.cell? ⟨w.heap.size + 1 + 1, 1, none⟩ = some (.bool t.power) ∧ x.cell? ⟨w.heap.size + 1 + 1, 2, none⟩ = some (.int .i64 t.outer) ∧ x.cell? ⟨w.heap.size + 1 + 1, 3, none⟩ = some (.int .i64 t.inner) :=
  ⟨h, range_cell h.ts (show (spL t)[0]? = some (.int .i64 t.order) from rfl), range_cell h.ts (show (spL t)[1]? = some (.bool t.power) from rfl), range_cell h.ts (show (spL t)[2]? = some (.int .i64 t.outer) from rfl), range_cell h.ts (show (spL t)[3]? = some (.int .i64 t.inner) from rfl)⟩
set_option maxRecDepth 100000 in
set_option maxHeartbeats 8000000 in
theorem rTime_any (g : Gt) (p : GtP) (s : St) (o i : Int) (pw : Bool) (w : World) (hok : GtOk w p g) :
    Calls Tryz.prog 15 #[.agg (gtL g p).toArray, .agg #[.int .i64 s.pos, .int .i64 s.charge, .bool s.bolted], .int .i64 o, .int .i64 i, .bool pw] w fun e w' => e = .returned (.tuple #[.int .i64 (timeP g s o i pw).1, .int .i64 (timeP g s o i pw).2]) ∧ Below w.heap.size w w' := by
  obtain ⟨t, ht⟩ : ∃ t : Sp, toCloseT o i pw = t := ⟨_, rfl⟩
  have HE := hid (show timeP g s o i pw = if gtE g ≠ 0 then (0, gtE g) else if spE g s t ≠ 0 then (0, spE g s t) else searchF [g] [] [t] [false] 0 2000 [s] by rw [← ht]; rfl)
  have HGd := hid (fun h => gtGood (g := g) h)
  have HSd := hid (fun h => spGoods (g := g) (s := s) (t := t) h)
  have HOk := hid hok
  have hl : (#[.int .i64 1, .bool pw, .int .i64 o, .int .i64 i] : Array Value) = #[.int .i64 t.order, .bool t.power, .int .i64 t.outer, .int .i64 t.inner] := by rw [← ht]; rfl
  have H0 := TiW.start w g p s t
  have HSs := (LwW.start w g p s t).ss

  have HV := hid (fun W => rvalid_any g p s t W)
  clear hok
  have R1 := (FoW.start w g p 25).rows
  go_enter Tryz.func15, Tryz.ntmps15
  go_upto_region 2 with fail
  generalize World.alloc (World.alloc (World.alloc w _) _) _ = W1 at *
  clear R1 hl
  have H1 := hid H0
  have HS1 := hid HSs
  clear H0 HSs
  have R := H1.out.rows
  go_wp2_with (refine wpList_load_mid rfl 25 _ rfl _ 0 rfl (gtL g p) _ (R) Tryz.underlying25 rfl (by kernel_rfl) ?_)
  refine (rcheck_any g p _ (HOk.out.later H1.out.below (Nat.le_refl _))).mono ?_
  rintro e w2 ⟨rfl, hb⟩
  have H2 := hid (H1.out.later hb)
  have HS2 := hid (range_later HS1.out hb (by have := H1.out.lt; omega))
  clear R H1 HS1 hb
  obtain ⟨k1, k2, ge, hge⟩ : ∃ a b c, gtP g = (a, b, c) := ⟨_, _, _, rfl⟩
  have hgE : gtE g = ge := by unfold gtE; rw [hge]
  rw [hge]
  rw [hgE] at HE HGd
  clear hge hgE
  dsimp only
  by_cases hx : ge = 0
  · have q : (ge == 0) = true := by simp [hx]
    have HG := hid (HGd.out hx)
    rw [if_neg (by simp [hx])] at HE
    clear hx HGd
    obtain ⟨-, t0, t1, t2, t3⟩ := H2.out.all
    have R := H2.out.rows
    have s0 := range_cell HS2.out (show [_, _, _][0]? = some (.int .i64 s.pos) from rfl)
    have s1 := range_cell HS2.out (show [_, _, _][1]? = some (.int .i64 s.charge) from rfl)
    have s2 := range_cell HS2.out (show [_, _, _][2]? = some (.bool s.bolted) from rfl)
    go_wp2_with (refine wpList_load_mid rfl 25 _ rfl _ 0 rfl (gtL g p) _ (R) Tryz.underlying25 rfl (by kernel_rfl) ?_)
    refine (HV.out _).mono ?_
    rintro e w3 ⟨rfl, hb⟩
    have H3 := hid (H2.out.later hb)
    have HS3 := hid (range_later HS2.out hb (by have := H2.out.lt; omega))
    clear R t0 t1 t2 t3 s0 s1 s2 H2 HS2 hb
    generalize spE g s t = se at *
    by_cases hx : se = 0
    · have q2 : (se != 0) = false := by simp [hx]
      rw [if_neg (by simp [hx])] at HE
      obtain ⟨hsg, htg⟩ := HSd.out hx
      have HSg := hid hsg
      have HTg := hid htg
      clear hx HSd hsg htg
      go_wp2_with fail
      go_loopw [16] (fun nv wr => ∃ k : Nat, k ≤ 2001 ∧ nv = .int .i64 k ∧ Hid (∀ j, j < k → (itF g t j s).pos ≠ g.travel) ∧ Hid (TiW w g p t wr) ∧ Hid (wr.rangeAt (w.heap.size + 1) 0 (stL (itF g t k s)))) (fun nv _ => 2001 - (intOf nv).toNat)
      case atStart => exact ⟨0, by omega, rfl, hid (fun j h => absurd h (Nat.not_lt_zero _)), H3, HS3⟩
      case round =>
        obtain ⟨k, hk, rfl, HB, HT, HS⟩ := hrel
        have HI := hid (itF_succ g t k s)
        have HIg := hid (itF_good HG.out t HSg.out k)
        by_cases hlt : k ≤ 2000
        · have hkI : (k : Int) ≤ 2000 := by omega
          have q3 : decide ((k : Int) ≤ 2000) = true := by simp; omega
          have HA := hid (fun h => search_at (g := g) (t := t) (s := s) hlt h HB.out)
          have HN := hid (show (itF g t k s).pos ≠ g.travel → ∀ j, j < k + 1 → (itF g t j s).pos ≠ g.travel from fun hne j hj => by
            rcases Nat.lt_or_ge j k with h | h
            · exact HB.out j h
            · obtain rfl : j = k := by omega
              exact hne)
          generalize itF g t k s = u at *
          have s0 := range_cell HS.out (show [_, _, _][0]? = some (.int .i64 u.pos) from rfl)
          have s1 := range_cell HS.out (show [_, _, _][1]? = some (.int .i64 u.charge) from rfl)
          have s2 := range_cell HS.out (show [_, _, _][2]? = some (.bool u.bolted) from rfl)
          have c2 := range_cell HT.out.rows (show (gtL g p)[2]? = some (.int .i64 g.travel) from rfl)
          by_cases hp : u.pos = g.travel
          · have q4 : (u.pos == g.travel) = true := by simp [hp]
            have HZ := hid (HE.out.trans (HA.out hp))
            have BF := HT.out.below
            clear hp
            go_wp2_with fail
            go_ret2
            exact ⟨ret_two (by rw [HZ.out]) (by rw [HZ.out]), BF⟩
          · have q4 : (u.pos == g.travel) = false := by simp [hp]
            have HN2 := hid (HN.out hp)
            have HBo := hid (fun W => rbolted_any u t W)
            have HSt := hid (fun W (hW : Below w.heap.size w W) => rstepped_any g p u t (refF u t 0) W HG.out HIg.out HTg.out (HOk.out.own.later hW (Nat.le_refl _)))
            have HIu := hid (show (itF g t (k + 1) s) = (stpF g u t (refF u t 0)).1 by rw [HI.out, step_stp])
            have vk : IntKind.i64.wrap ((k : Int) + 1) = ((k + 1 : Nat) : Int) := by rw [IntWalk.i64_in _ (by omega)]; omega
            clear hp HA HN
            generalize stpF g u t (refF u t 0) = v at *
            generalize refF u t 0 = rf at *
            go_wp2_with fail
            clear c2
            refine wp_region_noPanic ?_
            refine wp_region_held_drew (S := (fun w' => TiW w g p t w' ∧ w'.cell? ⟨w.heap.size + 1 + 1, 0, none⟩ = some (.int .i64 t.order) ∧ w'.cell? ⟨w.heap.size + 1 + 1, 1, none⟩ = some (.bool t.power) ∧ w'.cell? ⟨w.heap.size + 1 + 1, 2, none⟩ = some (.int .i64 t.outer) ∧ w'.cell? ⟨w.heap.size + 1 + 1, 3, none⟩ = some (.int .i64 t.inner))) (by kernel_rfl) ?_ (fun hHeld => ?_)
            · exact ⟨HT.out.drew, by simpa using HT.out.all.2.1, by simpa using HT.out.all.2.2.1, by simpa using HT.out.all.2.2.2.1, by simpa using HT.out.all.2.2.2.2⟩
            refine wpAnyH_take (i := 0) (oi := { dst := _, op := _, type := _, pos := _, after := _, guard := _ }) (v := .agg (gtL g p).toArray) rfl (by kernel_rfl) (by kernel_rfl) (by kernel_rfl) (fun _ _ _ h => h) (yieldsIf_load_mid (by rfl) 25 _ rfl w.heap.size 0 rfl (gtL g p) _ (fun _ hS => hS.1.rows) Tryz.underlying25 rfl (by kernel_rfl)) (by assumption) ?_
            try simp only [Act.put, List.setIfInBounds_toArray, List.set_cons_zero, List.set_cons_succ]
            refine wpAnyH_take (i := 2) (oi := { dst := _, op := _, type := _, pos := _, after := _, guard := _ }) (v := ?_) rfl (by kernel_rfl) (by kernel_rfl) (by kernel_rfl) (fun _ _ _ h => h) (Or.inl ⟨by rfl, ?_⟩) (by assumption) ?_
            rotate_left
            · intro wS hSw; (try dsimp only at hSw); go_simp; try (with_reducible rfl)
            try simp only [Act.put, List.setIfInBounds_toArray, List.set_cons_zero, List.set_cons_succ]
            refine wpAnyH_take (i := 4) (oi := { dst := _, op := _, type := _, pos := _, after := _, guard := _ }) (v := ?_) rfl (by kernel_rfl) (by kernel_rfl) (by kernel_rfl) (fun _ _ _ h => h) (Or.inl ⟨by rfl, ?_⟩) (by assumption) ?_
            rotate_left
            · intro wS hSw; (try dsimp only at hSw); go_simp; try (with_reducible rfl)
            try simp only [Act.put, List.setIfInBounds_toArray, List.set_cons_zero, List.set_cons_succ]
            refine wpAnyH_ready (rs := [1, 3]) (by kernel_rfl) (by simp) ?_
            refine AllReadyH.cons (o := { dst := _, op := _, type := _, pos := _, after := _, guard := _ }) rfl (fun K hK => ?_) (AllReadyH.cons (o := { dst := _, op := _, type := _, pos := _, after := _, guard := _ }) rfl (fun K hK => ?_) AllReadyH.nil)
            · go_simp
              refine hK.out _ _ ?_ (fun hHeld => ?_)
              · (try dsimp only); first | assumption | exact keepTi (by assumption) (by assumption)
              clear hK K
              try simp only [Act.put, List.setIfInBounds_toArray, List.set_cons_zero, List.set_cons_succ]
              refine wpAnyH_ready (rs := [3]) (by kernel_rfl) (by simp) ?_
              refine AllReadyH.cons (o := { dst := _, op := _, type := _, pos := _, after := _, guard := _ }) rfl (fun K hK => ?_) AllReadyH.nil
              go_simp
              refine hK.out _ _ ?_ (fun hHeld => ?_)
              · (try dsimp only); first | assumption | exact keepTi (by assumption) (by assumption)
              clear hK K
              try simp only [Act.put, List.setIfInBounds_toArray, List.set_cons_zero, List.set_cons_succ]
              refine wpAnyH_ready (rs := [5]) (by kernel_rfl) (by simp) ?_
              refine AllReadyH.cons (o := { dst := _, op := _, type := _, pos := _, after := _, guard := _ }) rfl (fun K hK => ?_) AllReadyH.nil
              go_simp
              (go_at_call 32; have hSc := (by assumption : TiW w g p t _ ∧ _ ∧ _ ∧ _ ∧ _); (with_reducible refine (HBo.out _).mono ?_); rintro e w' ⟨rfl, hbe⟩; replace s0 := (hbe.cell (p := ⟨w.heap.size + 1, 0, none⟩) (show w.heap.size + 1 < _ by have := hSc.1.lt; omega)).trans s0; replace s1 := (hbe.cell (p := ⟨w.heap.size + 1, 1, none⟩) (show w.heap.size + 1 < _ by have := hSc.1.lt; omega)).trans s1; replace s2 := (hbe.cell (p := ⟨w.heap.size + 1, 2, none⟩) (show w.heap.size + 1 < _ by have := hSc.1.lt; omega)).trans s2; clear hSc)
              try go_wp2_with fail
              refine hK.out _ _ ?_ (fun hHeld => ?_)
              · (try dsimp only); first | assumption | exact keepTi (by assumption) (by assumption)
              clear hK K
              try simp only [Act.put, List.setIfInBounds_toArray, List.set_cons_zero, List.set_cons_succ]
              refine wpAnyH_ready (rs := [6]) (by kernel_rfl) (by simp) ?_
              refine AllReadyH.cons (o := { dst := _, op := _, type := _, pos := _, after := _, guard := _ }) rfl (fun K hK => ?_) AllReadyH.nil
              go_simp
              (go_at_call 31; have hSc := (by assumption : TiW w g p t _ ∧ _ ∧ _ ∧ _ ∧ _); (with_reducible refine (HSt.out _ hSc.1.below).mono ?_); clear hSc; rintro e w' ⟨rfl, hbe⟩)
              try go_wp2_with fail
              refine hK.out _ _ ?_ (fun hHeld => ?_)
              · (try dsimp only); first | assumption | exact keepTi (by assumption) (by assumption)
              clear hK K
              try simp only [Act.put, List.setIfInBounds_toArray, List.set_cons_zero, List.set_cons_succ]
              refine wpAnyH_take (i := 7) (oi := { dst := _, op := _, type := _, pos := _, after := _, guard := _ }) (v := ?_) rfl (by kernel_rfl) (by kernel_rfl) (by kernel_rfl) (fun _ _ _ h => h) (Or.inl ⟨by rfl, ?_⟩) (by assumption) ?_
              rotate_left
              · intro wS hSw; (try dsimp only at hSw); go_simp; try (with_reducible rfl)
              try simp only [Act.put, List.setIfInBounds_toArray, List.set_cons_zero, List.set_cons_succ]
              refine wpAnyH_take (i := 8) (oi := { dst := _, op := _, type := _, pos := _, after := _, guard := _ }) (v := ?_) rfl (by kernel_rfl) (by kernel_rfl) (by kernel_rfl) (fun _ _ _ h => h) (Or.inl ⟨by rfl, ?_⟩) (by assumption) ?_
              rotate_left
              · intro wS hSw; (try dsimp only at hSw); go_simp; try (with_reducible rfl)
              try simp only [Act.put, List.setIfInBounds_toArray, List.set_cons_zero, List.set_cons_succ]
              refine wpAnyH_take (i := 9) (oi := { dst := _, op := _, type := _, pos := _, after := _, guard := _ }) (v := ?_) rfl (by kernel_rfl) (by kernel_rfl) (by kernel_rfl) (fun _ _ _ h => h) (Or.inl ⟨by rfl, ?_⟩) (by assumption) ?_
              rotate_left
              · intro wS hSw; (try dsimp only at hSw); go_simp; try (with_reducible rfl)
              try simp only [Act.put, List.setIfInBounds_toArray, List.set_cons_zero, List.set_cons_succ]
              refine wpAnyH_ready (rs := [10]) (by kernel_rfl) (by simp) ?_
              refine AllReadyH.cons (o := { dst := _, op := _, type := _, pos := _, after := _, guard := _ }) rfl (fun K hK => ?_) AllReadyH.nil
              have hSc := (by assumption : TiW w g p t _ ∧ _ ∧ _ ∧ _ ∧ _)
              have fs := hSc.1.fs
              obtain ⟨z0, e0⟩ := hSc.1.s0
              obtain ⟨z1, e1⟩ := hSc.1.s1
              obtain ⟨z2, e2⟩ := hSc.1.s2
              have lw := hSc.1.lt
              clear hHeld
              go_simp
              refine hK.out _ _ ?_ (fun hHeld => ?_)
              · (try dsimp only); exact (hSc.1.set _ _ _).1.all
              clear hK K
              try simp only [Act.put, List.setIfInBounds_toArray, List.set_cons_zero, List.set_cons_succ]
              refine wpAnyH_done (by kernel_rfl) ?_ _
              refine NoPanic.normal ?_
              have HF := hid (hSc.1.set (.int .i64 v.1.pos) (.int .i64 v.1.charge) (.bool v.1.bolted))
              clear hHeld hSc fs e0 e1 e2 lw s0 s1 s2
              generalize World.setCell (World.setCell (World.setCell _ _ _) _ _) _ _ = U at *
              have HF1 := hid HF.out.1
              have HF2 := hid (show U.rangeAt (w.heap.size + 1) 0 (stL (itF g t (k + 1) s)) by rw [HIu.out]; exact HF.out.2)
              clear HF
              go_wp2_with fail
              exact ⟨⟨k + 1, by omega, by go_num, HN2, HF1, HF2⟩, by simp [intOf]; omega⟩
            · go_simp
              refine hK.out _ _ ?_ (fun hHeld => ?_)
              · (try dsimp only); first | assumption | exact keepTi (by assumption) (by assumption)
              clear hK K
              try simp only [Act.put, List.setIfInBounds_toArray, List.set_cons_zero, List.set_cons_succ]
              refine wpAnyH_ready (rs := [1, 5]) (by kernel_rfl) (by simp) ?_
              refine AllReadyH.cons (o := { dst := _, op := _, type := _, pos := _, after := _, guard := _ }) rfl (fun K hK => ?_) (AllReadyH.cons (o := { dst := _, op := _, type := _, pos := _, after := _, guard := _ }) rfl (fun K hK => ?_) AllReadyH.nil)
              · go_simp
                refine hK.out _ _ ?_ (fun hHeld => ?_)
                · (try dsimp only); first | assumption | exact keepTi (by assumption) (by assumption)
                clear hK K
                try simp only [Act.put, List.setIfInBounds_toArray, List.set_cons_zero, List.set_cons_succ]
                refine wpAnyH_ready (rs := [5]) (by kernel_rfl) (by simp) ?_
                refine AllReadyH.cons (o := { dst := _, op := _, type := _, pos := _, after := _, guard := _ }) rfl (fun K hK => ?_) AllReadyH.nil
                go_simp
                (go_at_call 32; have hSc := (by assumption : TiW w g p t _ ∧ _ ∧ _ ∧ _ ∧ _); (with_reducible refine (HBo.out _).mono ?_); rintro e w' ⟨rfl, hbe⟩; replace s0 := (hbe.cell (p := ⟨w.heap.size + 1, 0, none⟩) (show w.heap.size + 1 < _ by have := hSc.1.lt; omega)).trans s0; replace s1 := (hbe.cell (p := ⟨w.heap.size + 1, 1, none⟩) (show w.heap.size + 1 < _ by have := hSc.1.lt; omega)).trans s1; replace s2 := (hbe.cell (p := ⟨w.heap.size + 1, 2, none⟩) (show w.heap.size + 1 < _ by have := hSc.1.lt; omega)).trans s2; clear hSc)
                try go_wp2_with fail
                refine hK.out _ _ ?_ (fun hHeld => ?_)
                · (try dsimp only); first | assumption | exact keepTi (by assumption) (by assumption)
                clear hK K
                try simp only [Act.put, List.setIfInBounds_toArray, List.set_cons_zero, List.set_cons_succ]
                refine wpAnyH_ready (rs := [6]) (by kernel_rfl) (by simp) ?_
                refine AllReadyH.cons (o := { dst := _, op := _, type := _, pos := _, after := _, guard := _ }) rfl (fun K hK => ?_) AllReadyH.nil
                go_simp
                (go_at_call 31; have hSc := (by assumption : TiW w g p t _ ∧ _ ∧ _ ∧ _ ∧ _); (with_reducible refine (HSt.out _ hSc.1.below).mono ?_); clear hSc; rintro e w' ⟨rfl, hbe⟩)
                try go_wp2_with fail
                refine hK.out _ _ ?_ (fun hHeld => ?_)
                · (try dsimp only); first | assumption | exact keepTi (by assumption) (by assumption)
                clear hK K
                try simp only [Act.put, List.setIfInBounds_toArray, List.set_cons_zero, List.set_cons_succ]
                refine wpAnyH_take (i := 7) (oi := { dst := _, op := _, type := _, pos := _, after := _, guard := _ }) (v := ?_) rfl (by kernel_rfl) (by kernel_rfl) (by kernel_rfl) (fun _ _ _ h => h) (Or.inl ⟨by rfl, ?_⟩) (by assumption) ?_
                rotate_left
                · intro wS hSw; (try dsimp only at hSw); go_simp; try (with_reducible rfl)
                try simp only [Act.put, List.setIfInBounds_toArray, List.set_cons_zero, List.set_cons_succ]
                refine wpAnyH_take (i := 8) (oi := { dst := _, op := _, type := _, pos := _, after := _, guard := _ }) (v := ?_) rfl (by kernel_rfl) (by kernel_rfl) (by kernel_rfl) (fun _ _ _ h => h) (Or.inl ⟨by rfl, ?_⟩) (by assumption) ?_
                rotate_left
                · intro wS hSw; (try dsimp only at hSw); go_simp; try (with_reducible rfl)
                try simp only [Act.put, List.setIfInBounds_toArray, List.set_cons_zero, List.set_cons_succ]
                refine wpAnyH_take (i := 9) (oi := { dst := _, op := _, type := _, pos := _, after := _, guard := _ }) (v := ?_) rfl (by kernel_rfl) (by kernel_rfl) (by kernel_rfl) (fun _ _ _ h => h) (Or.inl ⟨by rfl, ?_⟩) (by assumption) ?_
                rotate_left
                · intro wS hSw; (try dsimp only at hSw); go_simp; try (with_reducible rfl)
                try simp only [Act.put, List.setIfInBounds_toArray, List.set_cons_zero, List.set_cons_succ]
                refine wpAnyH_ready (rs := [10]) (by kernel_rfl) (by simp) ?_
                refine AllReadyH.cons (o := { dst := _, op := _, type := _, pos := _, after := _, guard := _ }) rfl (fun K hK => ?_) AllReadyH.nil
                have hSc := (by assumption : TiW w g p t _ ∧ _ ∧ _ ∧ _ ∧ _)
                have fs := hSc.1.fs
                obtain ⟨z0, e0⟩ := hSc.1.s0
                obtain ⟨z1, e1⟩ := hSc.1.s1
                obtain ⟨z2, e2⟩ := hSc.1.s2
                have lw := hSc.1.lt
                clear hHeld
                go_simp
                refine hK.out _ _ ?_ (fun hHeld => ?_)
                · (try dsimp only); exact (hSc.1.set _ _ _).1.all
                clear hK K
                try simp only [Act.put, List.setIfInBounds_toArray, List.set_cons_zero, List.set_cons_succ]
                refine wpAnyH_done (by kernel_rfl) ?_ _
                refine NoPanic.normal ?_
                have HF := hid (hSc.1.set (.int .i64 v.1.pos) (.int .i64 v.1.charge) (.bool v.1.bolted))
                clear hHeld hSc fs e0 e1 e2 lw s0 s1 s2
                generalize World.setCell (World.setCell (World.setCell _ _ _) _ _) _ _ = U at *
                have HF1 := hid HF.out.1
                have HF2 := hid (show U.rangeAt (w.heap.size + 1) 0 (stL (itF g t (k + 1) s)) by rw [HIu.out]; exact HF.out.2)
                clear HF
                go_wp2_with fail
                exact ⟨⟨k + 1, by omega, by go_num, HN2, HF1, HF2⟩, by simp [intOf]; omega⟩
              · go_simp
                (go_at_call 32; have hSc := (by assumption : TiW w g p t _ ∧ _ ∧ _ ∧ _ ∧ _); (with_reducible refine (HBo.out _).mono ?_); rintro e w' ⟨rfl, hbe⟩; replace s0 := (hbe.cell (p := ⟨w.heap.size + 1, 0, none⟩) (show w.heap.size + 1 < _ by have := hSc.1.lt; omega)).trans s0; replace s1 := (hbe.cell (p := ⟨w.heap.size + 1, 1, none⟩) (show w.heap.size + 1 < _ by have := hSc.1.lt; omega)).trans s1; replace s2 := (hbe.cell (p := ⟨w.heap.size + 1, 2, none⟩) (show w.heap.size + 1 < _ by have := hSc.1.lt; omega)).trans s2; clear hSc)
                try go_wp2_with fail
                refine hK.out _ _ ?_ (fun hHeld => ?_)
                · (try dsimp only); first | assumption | exact keepTi (by assumption) (by assumption)
                clear hK K
                try simp only [Act.put, List.setIfInBounds_toArray, List.set_cons_zero, List.set_cons_succ]
                refine wpAnyH_ready (rs := [1]) (by kernel_rfl) (by simp) ?_
                refine AllReadyH.cons (o := { dst := _, op := _, type := _, pos := _, after := _, guard := _ }) rfl (fun K hK => ?_) AllReadyH.nil
                go_simp
                refine hK.out _ _ ?_ (fun hHeld => ?_)
                · (try dsimp only); first | assumption | exact keepTi (by assumption) (by assumption)
                clear hK K
                try simp only [Act.put, List.setIfInBounds_toArray, List.set_cons_zero, List.set_cons_succ]
                refine wpAnyH_ready (rs := [6]) (by kernel_rfl) (by simp) ?_
                refine AllReadyH.cons (o := { dst := _, op := _, type := _, pos := _, after := _, guard := _ }) rfl (fun K hK => ?_) AllReadyH.nil
                go_simp
                (go_at_call 31; have hSc := (by assumption : TiW w g p t _ ∧ _ ∧ _ ∧ _ ∧ _); (with_reducible refine (HSt.out _ hSc.1.below).mono ?_); clear hSc; rintro e w' ⟨rfl, hbe⟩)
                try go_wp2_with fail
                refine hK.out _ _ ?_ (fun hHeld => ?_)
                · (try dsimp only); first | assumption | exact keepTi (by assumption) (by assumption)
                clear hK K
                try simp only [Act.put, List.setIfInBounds_toArray, List.set_cons_zero, List.set_cons_succ]
                refine wpAnyH_take (i := 7) (oi := { dst := _, op := _, type := _, pos := _, after := _, guard := _ }) (v := ?_) rfl (by kernel_rfl) (by kernel_rfl) (by kernel_rfl) (fun _ _ _ h => h) (Or.inl ⟨by rfl, ?_⟩) (by assumption) ?_
                rotate_left
                · intro wS hSw; (try dsimp only at hSw); go_simp; try (with_reducible rfl)
                try simp only [Act.put, List.setIfInBounds_toArray, List.set_cons_zero, List.set_cons_succ]
                refine wpAnyH_take (i := 8) (oi := { dst := _, op := _, type := _, pos := _, after := _, guard := _ }) (v := ?_) rfl (by kernel_rfl) (by kernel_rfl) (by kernel_rfl) (fun _ _ _ h => h) (Or.inl ⟨by rfl, ?_⟩) (by assumption) ?_
                rotate_left
                · intro wS hSw; (try dsimp only at hSw); go_simp; try (with_reducible rfl)
                try simp only [Act.put, List.setIfInBounds_toArray, List.set_cons_zero, List.set_cons_succ]
                refine wpAnyH_take (i := 9) (oi := { dst := _, op := _, type := _, pos := _, after := _, guard := _ }) (v := ?_) rfl (by kernel_rfl) (by kernel_rfl) (by kernel_rfl) (fun _ _ _ h => h) (Or.inl ⟨by rfl, ?_⟩) (by assumption) ?_
                rotate_left
                · intro wS hSw; (try dsimp only at hSw); go_simp; try (with_reducible rfl)
                try simp only [Act.put, List.setIfInBounds_toArray, List.set_cons_zero, List.set_cons_succ]
                refine wpAnyH_ready (rs := [10]) (by kernel_rfl) (by simp) ?_
                refine AllReadyH.cons (o := { dst := _, op := _, type := _, pos := _, after := _, guard := _ }) rfl (fun K hK => ?_) AllReadyH.nil
                have hSc := (by assumption : TiW w g p t _ ∧ _ ∧ _ ∧ _ ∧ _)
                have fs := hSc.1.fs
                obtain ⟨z0, e0⟩ := hSc.1.s0
                obtain ⟨z1, e1⟩ := hSc.1.s1
                obtain ⟨z2, e2⟩ := hSc.1.s2
                have lw := hSc.1.lt
                clear hHeld
                go_simp
                refine hK.out _ _ ?_ (fun hHeld => ?_)
                · (try dsimp only); exact (hSc.1.set _ _ _).1.all
                clear hK K
                try simp only [Act.put, List.setIfInBounds_toArray, List.set_cons_zero, List.set_cons_succ]
                refine wpAnyH_done (by kernel_rfl) ?_ _
                refine NoPanic.normal ?_
                have HF := hid (hSc.1.set (.int .i64 v.1.pos) (.int .i64 v.1.charge) (.bool v.1.bolted))
                clear hHeld hSc fs e0 e1 e2 lw s0 s1 s2
                generalize World.setCell (World.setCell (World.setCell _ _ _) _ _) _ _ = U at *
                have HF1 := hid HF.out.1
                have HF2 := hid (show U.rangeAt (w.heap.size + 1) 0 (stL (itF g t (k + 1) s)) by rw [HIu.out]; exact HF.out.2)
                clear HF
                go_wp2_with fail
                exact ⟨⟨k + 1, by omega, by go_num, HN2, HF1, HF2⟩, by simp [intOf]; omega⟩
        · obtain rfl : k = 2001 := by omega
          have q3 : decide (((2001 : Nat) : Int) ≤ 2000) = false := by simp
          have HZ := hid (HE.out.trans (search_no fun j hj => HB.out j (by omega)))
          have BF := HT.out.below
          go_wp2_with fail
          go_ret2
          exact ⟨ret_two (by rw [HZ.out]) (by rw [HZ.out]), BF⟩
    · have q2 : (se != 0) = true := by simp [hx]
      have HZ := hid (HE.out.trans (if_pos hx))
      have BF := H3.out.below
      clear hx
      go_wp2_with fail
      go_ret2
      exact ⟨ret_two (by rw [HZ.out]) (by rw [HZ.out]), BF⟩
  · have q : (ge == 0) = false := by simp [hx]
    have q2 : (ge != 0) = true := by simp [hx]
    have HZ := hid (HE.out.trans (if_pos hx))
    have BF := H2.out.below
    clear hx
    go_wp2_with fail
    go_ret2
    exact ⟨ret_two (by rw [HZ.out]) (by rw [HZ.out]), BF⟩
end Go.Proofs.YtdoklolinbmhpaaGreat
