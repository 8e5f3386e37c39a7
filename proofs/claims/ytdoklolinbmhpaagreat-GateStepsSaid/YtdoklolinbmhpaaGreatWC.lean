/- Gate, part WC: Force. -/
import Derived.Test.YtdoklolinbmhpaaGreatWA
import Derived.Test.YtdoklolinbmhpaaGreatWM
set_option linter.all false
namespace Go.Proofs.YtdoklolinbmhpaaGreat
open Go.RowKit

theorem lvV (b : Bool) (x y : Int) (w : World) (h : lvB x y = b) :
    Calls Tryz.prog 75 #[.int .i64 x, .int .i64 y] w fun e w' => e = .returned (.bool b) ∧ w = w' := areLevelsV b x y w h
theorem keepM {g : Gt} {p : GtP} {s : St} {t : Sp} {V x y : World} {b : Nat} (hV : b < V.heap.size) (hb : Below x.heap.size x y) (h : Below V.heap.size V x ∧ x.rangeAt b 0 (mL g p s t)) : Below V.heap.size V y ∧ y.rangeAt b 0 (mL g p s t) := by
  have hs := h.1.size
  have hl : b < x.heap.size := by omega
  have c : ∀ j, y.cell? ⟨b, j, none⟩ = x.cell? ⟨b, j, none⟩ := fun j => hb.cell (p := ⟨b, j, none⟩) hl
  obtain ⟨h0, hR⟩ := h
  exact ⟨h0.trans (hb.mono hs), range_later hR hb hl⟩

set_option maxRecDepth 100000 in
set_option maxHeartbeats 4000000 in
theorem falls_any (g : Gt) (p : GtP) (o i : Int) (w : World) (hok : GtOk w p g) :
    Calls Tryz.prog 42 #[.agg (gtL g p).toArray, .int .i64 o, .int .i64 i] w fun e w' => e = .returned (.tuple #[.int .i64 (fallsP g o i).1, .int .i64 (fallsP g o i).2]) ∧ Below w.heap.size w w' := by
  have HE := hid (show fallsP g o i = if gtE g ≠ 0 then (0, gtE g) else if lvB o i = false then (0, 7) else (fallF g o i, 0) from rfl)
  have HGd := hid (fun h => gtGood (g := g) h)
  have HOk := hid hok
  clear hok
  have R1 := range_alloc w (gtL g p) 25
  go_enter Tryz.func42, Tryz.ntmps42
  go_wp2_with (refine wpList_load_mid rfl 25 _ rfl _ 0 rfl (gtL g p) _ R1 Tryz.underlying25 rfl (by kernel_rfl) ?_)
  refine (gateError_any g p _ (HOk.out.later ((Below.refl _ _).alloc (Nat.le_refl _) _) (Nat.le_refl _))).mono ?_
  rintro e w1 ⟨rfl, hb⟩
  have hfin : Below w.heap.size w w1 := ((Below.refl w.heap.size w).alloc (Nat.le_refl _) _).trans (hb.mono (by simp))
  have hsz : w.heap.size < w1.heap.size := by have := hb.size; simp at this; omega
  replace R1 : w1.rangeAt w.heap.size 0 (gtL g p) := range_later R1 hb (by simp)
  clear hb
  have c2 : w1.cell? ⟨w.heap.size, 2, none⟩ = some (.int .i64 g.travel) := range_cell R1 rfl
  generalize gtE g = x0 at *
  by_cases hx : x0 = 0
  · have q : (x0 != 0) = false := by simp [hx]
    have HX := hid hx
    clear hx
    obtain ⟨b, hb⟩ : ∃ b, lvB o i = b := ⟨_, rfl⟩
    rw [hb] at HE
    have HB := hid hb
    clear hb
    cases b
    · go_wp2_with ((with_reducible refine (lvV _ _ _ _ HB.out).mono ?_); rintro e w' ⟨rfl, rfl⟩)
      refine bodyPost_ret (v := .tuple #[.int .i64 0, .int .i64 7]) (by simp [results, Tryz.results42, go_sem]) rfl ⟨by rw [HE.out]; simp [HX.out], hfin⟩
    · have hg := HGd.out HX.out
      have hT1 := hg.travel
      have hlv : (-20000 ≤ o ∧ o ≤ 20000) ∧ (-20000 ≤ i ∧ i ≤ 20000) := by
        have := HB.out; unfold lvB at this; simpa only [Bool.and_eq_true, inB_iff] using this
      obtain ⟨T, hT⟩ : ∃ T : Nat, g.travel = (T : Int) := ⟨g.travel.toNat, by omega⟩
      obtain ⟨f, hf⟩ : ∃ f : Nat → Bool, f = fun k : Nat => decide (closeF g k o i ≤ frictF g k o i) := ⟨_, rfl⟩
      have HFa := hid (show fallF g o i = idxP f 0 T by unfold fallF; rw [hT, hf]; rfl)
      have HFd := hid (fun k : Nat => show f k = decide (closeF g k o i ≤ frictF g k o i) by rw [hf])
      rw [HFa.out] at HE
      have HT := hid hT
      have hT2 : T ≤ 5000 := by omega
      rw [hT] at c2
      clear hf hT1 hT HFa
      go_wp2_with ((with_reducible refine (lvV _ _ _ _ HB.out).mono ?_); rintro e w' ⟨rfl, rfl⟩)
      have HR1 := hid R1
      have HLv := hid hlv
      have HGg := hid hg
      clear R1 c2 hlv hg
      go_loopw [9, 10, 22] (fun _ _ j wr => ∃ k : Nat, k ≤ T ∧ j = .int .i64 k ∧ Hid (idxP f 0 T = idxP f k (T - k)) ∧ Below w1.heap.size w1 wr) (fun _ _ j _ => T - (intOf j).toNat)
      case atStart => exact ⟨0, Nat.zero_le _, rfl, hid (by simp), Below.refl _ _⟩
      case round =>
        obtain ⟨k, hk, rfl, hi, hbw⟩ := hrel
        by_cases hlt : k < T
        · have hkI : (k : Int) < (T : Int) := by omega
          have hyes := fun he => idxP_yes (f := f) hlt he
          have hno := fun he => idxP_no (f := f) hlt he
          have HFk := hid (HFd.out k)
          obtain ⟨s, hs⟩ : ∃ s : St, s = ⟨(k : Int), 0, false⟩ := ⟨_, rfl⟩
          obtain ⟨t, ht⟩ : ∃ t : Sp, t = ⟨0, false, o, i⟩ := ⟨_, rfl⟩
          have HS := hid (fun W => standing_any g p k o i W)
          rw [← hs, ← ht] at HS
          have hpx : 0 ≤ (k : Int) ∧ (k : Int) ≤ g.travel := by rw [HT.out]; omega
          have hwr : Below w.heap.size w wr := hfin.trans (hbw.mono hfin.size)
          have HCl := hid (fun W (hW : Below w.heap.size w W) => closing_any g p s t W HGg.out (by rw [hs]; exact hpx) (by rw [ht]; exact HLv.out.1) (by rw [ht]; exact HLv.out.2) (HOk.out.own.later hW (Nat.le_refl _)))
          have HFr := hid (fun W => friction_any g p s t W HGg.out (by rw [hs]; exact hpx) (by rw [ht]; exact HLv.out.1) (by rw [ht]; exact HLv.out.2))
          rw [show closeF g s.pos t.outer t.inner = closeF g k o i by rw [hs, ht]] at HCl
          rw [show frictF g s.pos t.outer t.inner = frictF g k o i by rw [hs, ht]] at HFr
          generalize closeF g k o i = cf at *
          generalize frictF g k o i = ff at *
          generalize f k = y at *
          have R1 : wr.rangeAt w.heap.size 0 (gtL g p) := range_later HR1.out hbw hsz
          have HY := hid hyes; have HN := hid hno
          have HhI := hid hi
          clear hs ht hpx hyes hno hi
          go_wp2_with (refine wpList_load_mid rfl 25 _ rfl _ 0 rfl (gtL g p) _ R1 Tryz.underlying25 rfl (by kernel_rfl) ?_)
          refine (HS.out _).mono ?_
          rintro e w2 ⟨rfl, hb2⟩
          clear R1
          go_wp2_with (apply wpList_store_row (hg := heap_alloc_new w2 _) (h1 := mL_one g p s t); exact rfl; exact rfl; exact rfl; exact rfl; kernel_rfl; exact rfl)
          have RF := range_setRow (W := w2.alloc (.cells #[.string ⟨#[]⟩, .int .i64 0, .int .i64 0, .slice none 0 0, .int .i64 0, .int .i64 0, .int .i64 0, .int .i64 0, .int .i64 0, .int .i64 0, .int .i64 0, .int .i64 0, .int .i64 0, .int .i64 0, .int .i64 0, .int .i64 0, .int .i64 0, .int .i64 0, .int .i64 0, .slice none 0 0, .int .i64 0, .int .i64 0, .int .i64 0, .bool false, .int .i64 0, .bool false, .int .i64 0, .int .i64 0] 74)) (cs := mL g p s t) (heap_alloc_new w2 _)
          have BF := below_setRow (cs := (mL g p s t).toArray) ((Below.refl w2.heap.size w2).alloc (Nat.le_refl _) (.cells #[.string ⟨#[]⟩, .int .i64 0, .int .i64 0, .slice none 0 0, .int .i64 0, .int .i64 0, .int .i64 0, .int .i64 0, .int .i64 0, .int .i64 0, .int .i64 0, .int .i64 0, .int .i64 0, .int .i64 0, .int .i64 0, .int .i64 0, .int .i64 0, .int .i64 0, .int .i64 0, .slice none 0 0, .int .i64 0, .int .i64 0, .int .i64 0, .bool false, .int .i64 0, .bool false, .int .i64 0, .int .i64 0] 74)) (Nat.le_refl _)
          have sF : w2.heap.size < (World.setRow (w2.alloc (.cells #[.string ⟨#[]⟩, .int .i64 0, .int .i64 0, .slice none 0 0, .int .i64 0, .int .i64 0, .int .i64 0, .int .i64 0, .int .i64 0, .int .i64 0, .int .i64 0, .int .i64 0, .int .i64 0, .int .i64 0, .int .i64 0, .int .i64 0, .int .i64 0, .int .i64 0, .int .i64 0, .slice none 0 0, .int .i64 0, .int .i64 0, .int .i64 0, .bool false, .int .i64 0, .bool false, .int .i64 0, .int .i64 0] 74)) w2.heap.size (mL g p s t).toArray).heap.size := by rw [setRow_size, World.size_alloc]; omega
          have hwF := (hwr.trans (hb2.mono hwr.size)).trans (BF.mono (Nat.le_trans hwr.size hb2.size))
          simp only [Act.put, List.setIfInBounds_toArray, List.set_cons_zero, List.set_cons_succ]
          generalize World.setRow _ _ _ = F at *
          have HBk := hid (fun x (hx : Below F.heap.size F x) => ((hbw.trans (hb2.mono hbw.size)).trans (BF.mono (Nat.le_trans hbw.size hb2.size))).trans (hx.mono ((hbw.trans (hb2.mono hbw.size)).trans (BF.mono (Nat.le_trans hbw.size hb2.size))).size))
          clear BF
          generalize w2.heap.size = X at *
          refine wp_region_noPanic ?_
          refine wp_region_held_drew (S := (fun w' => Below F.heap.size F w' ∧ w'.rangeAt X 0 (mL g p s t))) (by kernel_rfl) ?_ (fun hHeld => ?_)
          · exact ⟨(Below.refl _ _).drew, range_drew RF⟩
          refine wpAnyH_take (i := 0) (oi := { dst := _, op := _, type := _, pos := _, after := _, guard := _ }) (v := .agg (mL g p s t).toArray) rfl (by kernel_rfl) (by kernel_rfl) (by kernel_rfl) (fun _ _ _ h => h) (yieldsIf_load_mid (by rfl) 74 _ rfl X 0 rfl (mL g p s t) _ (fun _ hS => hS.2) Tryz.underlying74 rfl (by kernel_rfl)) (by assumption) ?_
          try simp only [Act.put, List.setIfInBounds_toArray, List.set_cons_zero, List.set_cons_succ]
          refine wpAnyH_take (i := 2) (oi := { dst := _, op := _, type := _, pos := _, after := _, guard := _ }) (v := .agg (mL g p s t).toArray) rfl (by kernel_rfl) (by kernel_rfl) (by kernel_rfl) (fun _ _ _ h => h) (yieldsIf_load_mid (by rfl) 74 _ rfl X 0 rfl (mL g p s t) _ (fun _ hS => hS.2) Tryz.underlying74 rfl (by kernel_rfl)) (by assumption) ?_
          try simp only [Act.put, List.setIfInBounds_toArray, List.set_cons_zero, List.set_cons_succ]
          refine wpAnyH_ready (rs := [1]) (by kernel_rfl) (by simp) ?_
          refine AllReadyH.cons (o := { dst := _, op := _, type := _, pos := _, after := _, guard := _ }) rfl (fun K hK => ?_) AllReadyH.nil
          go_simp
          (go_at_call 77; have hSc := (by assumption : Below F.heap.size F _ ∧ World.rangeAt _ X 0 (mL g p s t)); (with_reducible refine (HCl.out _ (hwF.trans (hSc.1.mono hwF.size))).mono ?_); clear hSc; rintro e w' ⟨rfl, hbe⟩)
          try go_wp2_with fail
          refine hK.out _ _ ?_ (fun hHeld => ?_)
          · (try dsimp only); first | assumption | exact keepM (by omega) (by assumption) (by assumption)
          clear hK K
          try simp only [Act.put, List.setIfInBounds_toArray, List.set_cons_zero, List.set_cons_succ]
          refine wpAnyH_ready (rs := [3]) (by kernel_rfl) (by simp) ?_
          refine AllReadyH.cons (o := { dst := _, op := _, type := _, pos := _, after := _, guard := _ }) rfl (fun K hK => ?_) AllReadyH.nil
          go_simp
          (go_at_call 78; (with_reducible refine (HFr.out _).mono ?_); rintro e w' ⟨rfl, hbe⟩)
          try go_wp2_with fail
          refine hK.out _ _ ?_ (fun hHeld => ?_)
          · (try dsimp only); first | assumption | exact keepM (by omega) (by assumption) (by assumption)
          clear hK K
          try simp only [Act.put, List.setIfInBounds_toArray, List.set_cons_zero, List.set_cons_succ]
          refine wpAnyH_take (i := 4) (oi := { dst := _, op := _, type := _, pos := _, after := _, guard := _ }) (v := ?_) rfl (by kernel_rfl) (by kernel_rfl) (by kernel_rfl) (fun _ _ _ h => h) (Or.inl ⟨by rfl, ?_⟩) (by assumption) ?_
          rotate_left
          · intro wS hSw; (try dsimp only at hSw); go_simp; try (with_reducible rfl)
          try simp only [Act.put, List.setIfInBounds_toArray, List.set_cons_zero, List.set_cons_succ]
          refine wpAnyH_done (by kernel_rfl) ?_ _
          refine NoPanic.normal ?_
          have hS := (by assumption : Below F.heap.size F _ ∧ World.rangeAt _ X 0 (mL g p s t))
          have hB2 : Below w1.heap.size w1 w' := HBk.out _ hS.1
          by_cases hc : cf ≤ ff
          · have hcb : decide (cf ≤ ff) = true := by simpa using hc
            have HC := hid (show y = true by rw [HFk.out]; exact hcb)
            clear hS
            go_wp2_with fail
            refine bodyPost_ret (v := .tuple #[.int .i64 k, .int .i64 0]) (by simp [results, Tryz.results42, go_sem]) rfl ⟨by rw [HE.out, HhI.out, HY.out HC.out]; simp [HX.out], hfin.trans (hB2.mono hfin.size)⟩
          · have hcb : decide (cf ≤ ff) = false := by simpa using hc
            have HC := hid (show y = false by rw [HFk.out]; exact hcb)
            have hc2 : ff < cf := by omega
            clear hS hc
            go_wp2_with fail
            go_ways
            go_roundw
            case rel => exact ⟨k + 1, by omega, by go_num, hid (by rw [HhI.out, HN.out HC.out]), hB2⟩
            case measure => simp [intOf]; omega
        · have hkl : k = T := by omega
          have HL := hid hkl
          have hkI : ¬ (k : Int) < (T : Int) := by omega
          clear hkl hlt
          go_wp2_with fail
          refine bodyPost_ret (v := .tuple #[.int .i64 (-1), .int .i64 0]) (by simp [results, Tryz.results42, go_sem]) rfl ⟨by rw [HE.out, hi.out, HL.out, Nat.sub_self]; simp [HX.out, idxP], hfin.trans (hbw.mono hfin.size)⟩
  · have q : (x0 != 0) = true := by simp [hx]
    have HX := hid hx
    clear hx
    go_wp2_with fail
    refine bodyPost_ret (v := .tuple #[.int .i64 0, .int .i64 x0]) (by simp [results, Tryz.results42, go_sem]) rfl ⟨by rw [HE.out]; simp [HX.out], hfin⟩
end Go.Proofs.YtdoklolinbmhpaaGreat
