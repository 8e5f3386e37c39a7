/- Tide, part SS: the reference's Agree. -/
import Derived.Test.YtfjankkkeehioaaSK
import Derived.Test.YtfjankkkeehioaaSO
import Derived.Lib.MinMax
set_option linter.all false
namespace Go.Proofs.Ytfjankkkeehioaa
open Go.RowKit Go.Shelf

theorem hasVal' (g : Gau) (p : GPos) (x t now : Int) (b : Bool) (w : World) (hok : GauOk w p g) (hg : GauGood g) (ht : 0 ≤ t ∧ t ≤ 200000) (hb : hasB g t now x = b) :
    Calls Try.prog 84 #[.agg #[.string g.name, .int .i64 g.err, .int .i64 g.rate, .slice p.da g.ds.length p.dc, .slice p.ra g.rs.length p.rc], .int .i64 x, .int .i64 t, .int .i64 now] w
      fun e w' => e = .returned (.bool b) ∧ Below w.heap.size w w' := by
  rw [← hb]; exact rhas_any g p x t now w hok hg ht
theorem take_step {P : Int → Prop} {A : List Int} {j : Nat} (hj : j < A.length) : (∃ a ∈ A.take (j + 1), P a) ↔ (∃ a ∈ A.take j, P a) ∨ P A[j] := by
  rw [List.take_succ_eq_append_getElem hj]
  constructor
  · rintro ⟨a, ha, h⟩
    rcases List.mem_append.1 ha with ha | ha
    · exact .inl ⟨a, ha, h⟩
    · rw [List.mem_singleton.1 ha] at h; exact .inr h
  · rintro (⟨a, ha, h⟩ | h)
    · exact ⟨a, List.mem_append_left _ ha, h⟩
    · exact ⟨A[j], List.mem_append_right _ (List.mem_singleton.2 rfl), h⟩

set_option maxRecDepth 100000 in
set_option maxHeartbeats 16000000 in
theorem ragree_any (a : Option Addr) (cap : Nat) (gs : List Gau) (t now : Int) (w : World) (hlen : gs.length ≤ 140737488355328) (hgs : GausAt w a gs) :
    Calls Try.prog 35 #[.slice a gs.length cap, .int .i64 t, .int .i64 now] w
      fun e w' => ∃ (m : Int) (L : List Int) (er : Int) (b : Option Addr) (c : Nat), e = .returned (.tuple #[.int .i64 m, .slice b L.length c, .int .i64 er]) ∧ IntsAt w' b L ∧ L.length ≤ 8 ∧ AgreeIs gs t now m L er ∧ Below w.heap.size w w' := by
  obtain ⟨j0, hji, hy0, hy1, hy2⟩ := info_parts A.infoIntT
  have HGs := hid hgs; clear hgs
  go_enter Try.func35, Try.ntmps35
  go_wp2_with fail
  refine (rgauges_any a cap gs t now _ hlen HGs.out).mono ?_
  rintro e W2 ⟨rfl, BW2⟩
  have HOk := hid (fun h => askE_ok (gs := gs) (t := t) (now := now) h)
  have HIs := hid (show ∀ m L e, AgreeIs gs t now m L e ↔ if askE gs t now ≠ 0 then m = 0 ∧ L = [] ∧ e = askE gs t now else ManyOk (voiceL gs t now gs.length) m ∧ L = othersL gs t now (voiceL gs t now gs.length) m gs.length ∧ e = 0 from fun m L e => Iff.rfl)
  generalize askE gs t now = ae at *
  by_cases ha : ae = 0
  · subst ha
    have HIa := hid (show ∀ m L e, (ManyOk (voiceL gs t now gs.length) m ∧ L = othersL gs t now (voiceL gs t now gs.length) m gs.length ∧ e = 0) → AgreeIs gs t now m L e from fun m L e h => (HIs.out m L e).2 (by rw [if_neg (by simp)]; exact h))
    obtain ⟨hl8, hgood, _, ht, _⟩ := HOk.out rfl
    have HGood := hid hgood
    clear HOk hgood HIs
    go_wp2_with fail
    refine (rends_any a cap gs t now _ hl8 HGood.out ht (HGs.out.later BW2 (Nat.le_refl _))).mono ?_
    rintro e W3 ⟨vb, vc, rfl, hv, _, B3⟩
    have BW3 : Below w.heap.size w W3 := BW2.trans (B3.mono BW2.size)
    have HV := hid hv
    have HAg := hid (fun x W (hW : Below w.heap.size w W) => ragreed_any a cap gs x t now W hl8 HGood.out ht (HGs.out.later hW (Nat.le_refl _)))
    have hvl := voiceL_len gs t now gs.length
    have hal : (atsOf (voiceL gs t now gs.length)).length ≤ 16 := by rw [atsOf_len]; omega
    have HMe := hid (fun (m : Int) h0 h hs => many_ends (V := voiceL gs t now gs.length) (m := m) h0 h hs)
    have HWe := hid (fun (m : Int) hm i hi => with_ends (gs := gs) (t := t) (now := now) (n := gs.length) (m := m) hm (i := i) hi)
    generalize voiceL gs t now gs.length = V at *
    generalize atsOf V = A at *
    clear hv B3
    have s3 := BW3.size
    go_wp2_with fail
    go_loopw [10, 12] (fun s10 i wr => ∃ (k m : Nat), k ≤ A.length ∧ i = .int .i64 k ∧ s10 = .int .i64 m ∧ m ≤ V.length ∧ Hid (∀ a ∈ A.take k, (cnt V a : Int) ≤ m) ∧ Hid ((m : Int) = 0 ∨ ∃ a ∈ A.take k, (cnt V a : Int) = m) ∧ Below W3.heap.size W3 wr) (fun _ i _ => A.length - (intOf i).toNat)
    case atStart => exact ⟨0, 0, Nat.zero_le _, rfl, rfl, Nat.zero_le _, hid (by simp), hid (.inl rfl), Below.refl _ _⟩
    case round =>
      obtain ⟨k, m, hk, rfl, rfl, hmV, hmx, hms, hbw⟩ := hrel
      have hsr := hbw.size
      by_cases hlt : k < A.length
      · rcases HV.out.later hbw (Nat.le_refl _) with h0 | ⟨b, o, rfl, hs, hc⟩
        · rw [h0] at hlt; simp at hlt
        have c0 := hc k hlt
        have hkI : (k : Int) < (A.length : Int) := by omega
        have HT := hid (show A.take (k + 1) = A.take k ++ [A[k]] from List.take_succ_eq_append_getElem hlt)
        clear hc
        generalize A[k] = x at *
        have hcl := cnt_le V x
        go_wp2_with fail
        refine (HAg.out x wr (BW3.trans (hbw.mono s3))).mono ?_
        rintro e W4 ⟨rfl, B4⟩
        clear c0
        obtain ⟨c, hcx⟩ : ∃ c, cnt V x = c := ⟨_, rfl⟩
        rw [hcx]
        rw [hcx] at hcl
        have HCx := hid hcx
        clear hcx
        go_wp2_with fail
        refine ⟨⟨k + 1, max m c, by omega, by go_num, by rw [show max (m : Int) (c : Int) = ((max m c : Nat) : Int) by omega], by omega, hid ?_, hid ?_, hbw.trans (B4.mono hsr)⟩, by simp [intOf]; omega⟩
        · intro a ha
          rw [HT.out] at ha
          rcases List.mem_append.1 ha with ha | ha
          · have := hmx.out a ha; omega
          · rw [List.mem_singleton.1 ha, HCx.out]; omega
        · rw [HT.out]
          by_cases hle : c ≤ m
          · rcases hms.out with h | ⟨a, ha, h⟩
            · left; omega
            · right; exact ⟨a, List.mem_append_left _ ha, by omega⟩
          · right; exact ⟨x, List.mem_append_right _ (List.mem_singleton.2 rfl), by rw [HCx.out]; omega⟩
      · obtain rfl : k = A.length := by omega
        have hm1 := hmx.out; have hm2 := hms.out
        rw [List.take_length] at hm1 hm2
        have HM := hid (HMe.out (m : Int) (by omega) hm1 hm2)
        have HW := hid (HWe.out (m : Int) HM.out)
        clear hm1 hm2 hmx hms HMe HWe
        obtain ⟨WR, hWR⟩ : ∃ X, X = wr := ⟨_, rfl⟩
        subst hWR
        have BWR : Below w.heap.size w WR := BW3.trans (hbw.mono s3)
        have hsR := BWR.size
        go_wp2_with fail
        go_loopw [13, 14, 15, 16] (fun v i _ _ wx => ∃ (k : Nat) (L : List Int), k ≤ gs.length ∧ i = .int .i64 k ∧ L.length ≤ k ∧ Hid (othersL gs t now V m k = L) ∧ Hid (wx.ownsRow WR.heap.size 3 1 v L.length (intVals L)) ∧ Below WR.heap.size WR wx) (fun _ i _ _ _ => gs.length - (intOf i).toNat)
        case atStart => exact ⟨0, [], Nat.zero_le _, rfl, Nat.le_refl _, hid rfl, hid (World.ownsRow_nil _ _ _ _), Below.refl _ _⟩
        case round =>
          obtain ⟨k, L, hk, rfl, hLk, hL, hown, hbx⟩ := hrel
          have hsx := hbx.size
          by_cases hlt : k < gs.length
          · obtain ⟨WX, hWX⟩ : ∃ X, X = wr := ⟨_, rfl⟩
            subst hWX
            have hkI : (k : Int) < (gs.length : Int) := by omega
            have HWk := hid (HW.out k hlt)
            go_wp2_with fail
            go_loopw [15, 16] (fun s15 i wy => ∃ (j : Nat) (b : Bool), j ≤ A.length ∧ i = .int .i64 j ∧ s15 = .bool b ∧ Hid (b = true ↔ ∃ a ∈ A.take j, (cnt V a : Int) = m ∧ hasB (gs.getD k default) t now a = true) ∧ Below WX.heap.size WX wy) (fun _ i _ => A.length - (intOf i).toNat)
            case atStart => exact ⟨0, false, Nat.zero_le _, rfl, rfl, hid (by simp), Below.refl _ _⟩
            case round =>
              obtain ⟨j, b, hj, rfl, rfl, hiff, hby⟩ := hrel
              have hsy := hby.size
              have BWy : Below w.heap.size w wr := BWR.trans ((hbx.trans (hby.mono hsx)).mono hsR)
              by_cases hjl : j < A.length
              · rcases HV.out.later (hbw.trans ((hbx.trans (hby.mono hsx)).mono hbw.size)) (Nat.le_refl _) with h0 | ⟨g0, o, rfl, hs, hc⟩
                · rw [h0] at hjl; simp at hjl
                have c0 := hc j hjl
                rcases HGs.out.later BWy (Nat.le_refl _) with h0 | ⟨gb, go, ps, rfl, hgs, hgc⟩
                · rw [h0] at hlt; simp at hlt
                obtain ⟨⟨d0, d1, d2, d3, d4⟩, hok⟩ := hgc k hlt
                have HOk := hid hok
                have HGk := hid (HGood.out k hlt)
                have HSt := hid (take_step (P := fun a => (cnt V a : Int) = m ∧ hasB gs[k] t now a = true) hjl)
                have hiff' := hiff.out
                rw [show gs.getD k default = gs[k] by simp [List.getD, hlt]] at hiff' ⊢
                have HIf := hid hiff'
                have hjI : (j : Int) < (A.length : Int) := by omega
                clear hgc hok hc hiff hiff' HWk
                generalize gs[k] = g at *
                generalize ps k = p at *
                generalize A[j] = x at *
                have hcl := cnt_le V x
                obtain ⟨c, hcx⟩ : ∃ c, cnt V x = c := ⟨_, rfl⟩
                have hag : ∀ W, Below w.heap.size w W → Calls Try.prog 79 #[.slice (some ⟨gb, go, none⟩) gs.length cap, .int .i64 x, .int .i64 t, .int .i64 now] W fun e w' => e = .returned (.int .i64 c) ∧ Below W.heap.size W w' := by rw [← hcx]; exact HAg.out x
                have hst := HSt.out
                rw [hcx] at hcl hst
                have HS2 := hid hst
                have HAgx := hid hag
                clear hcx hag hst HSt
                obtain ⟨hb, hhb⟩ : ∃ hb, hasB g t now x = hb := ⟨_, rfl⟩
                have HHb := hid hhb
                have hs2 := HS2.out
                rw [hhb] at hs2
                have HS3 := hid hs2
                clear hhb hs2 HS2
                have hw0 := BWy.size
                have yc0 : ∀ X : Later wr.heap.size wr, X.wd.cell? ⟨g0, o + j, none⟩ = some (.int .i64 x) := fun X => (X.below.cell (p := ⟨g0, o + j, none⟩) (by show g0 < _; omega)).trans c0
                have yd0 : ∀ X : Later wr.heap.size wr, X.wd.cell? ⟨gb, go + k * 5, none⟩ = some (.string g.name) := fun X => (X.below.cell (p := ⟨gb, go + k * 5, none⟩) hgs).trans d0
                have yd1 : ∀ X : Later wr.heap.size wr, X.wd.cell? ⟨gb, go + k * 5 + 1, none⟩ = some (.int .i64 g.err) := fun X => (X.below.cell (p := ⟨gb, go + k * 5 + 1, none⟩) hgs).trans d1
                have yd2 : ∀ X : Later wr.heap.size wr, X.wd.cell? ⟨gb, go + k * 5 + 2, none⟩ = some (.int .i64 g.rate) := fun X => (X.below.cell (p := ⟨gb, go + k * 5 + 2, none⟩) hgs).trans d2
                have yd3 : ∀ X : Later wr.heap.size wr, X.wd.cell? ⟨gb, go + k * 5 + 3, none⟩ = some (.slice p.da g.ds.length p.dc) := fun X => (X.below.cell (p := ⟨gb, go + k * 5 + 3, none⟩) hgs).trans d3
                have yd4 : ∀ X : Later wr.heap.size wr, X.wd.cell? ⟨gb, go + k * 5 + 4, none⟩ = some (.slice p.ra g.rs.length p.rc) := fun X => (X.below.cell (p := ⟨gb, go + k * 5 + 4, none⟩) hgs).trans d4
                clear c0 d0 d1 d2 d3 d4
                cases b
                · by_cases hcm : (c : Int) = m
                  · have hcd : ((c : Int) == (m : Int)) = true := by simp [hcm]
                    have HCm := hid hcm
                    clear hcm
                    go_upto_region 18 with fail
                    refine wp_region_grow wr.heap.size (by kernel_rfl) (by kernel_rfl) ?_
                    repeat (go_big_quiet_step (first
                      | (go_at_call 79; exact later_grow (Nat.le_refl _) (HAgx.out _ (BWy.trans (Below.mono (Later.below _) hw0))))
                      | (go_at_call 84; exact later_grow (Nat.le_refl _) (hasVal' g p x t now hb _ (HOk.out.later (Later.below _) (Nat.le_refl _)) HGk.out ht HHb.out))))
                    refine wpQuiet_nil ?_
                    rintro _ ⟨⟨wz, hbz⟩, rfl⟩
                    clear yc0 yd0 yd1 yd2 yd3 yd4
                    go_wp2_with fail
                    refine ⟨⟨j + 1, hb, by omega, by go_num, rfl, hid ?_, hby.trans (hbz.mono hsy)⟩, by simp [intOf]; omega⟩
                    rw [HS3.out]
                    have := HIf.out
                    simp only [Bool.false_eq_true, false_iff] at this
                    exact ⟨fun h => .inr ⟨HCm.out, h⟩, fun h => h.elim (fun h => absurd h this) (fun h => h.2)⟩
                  · have hcd : ((c : Int) == (m : Int)) = false := by simp [hcm]
                    have HCm := hid hcm
                    clear hcm
                    go_upto_region 18 with fail
                    refine wp_region_grow wr.heap.size (by kernel_rfl) (by kernel_rfl) ?_
                    repeat (go_big_quiet_step (first
                      | (go_at_call 79; exact later_grow (Nat.le_refl _) (HAgx.out _ (BWy.trans (Below.mono (Later.below _) hw0))))))
                    refine wpQuiet_nil ?_
                    rintro _ ⟨⟨wz, hbz⟩, rfl⟩
                    clear yc0 yd0 yd1 yd2 yd3 yd4
                    go_wp2_with fail
                    refine ⟨⟨j + 1, false, by omega, by go_num, rfl, hid ?_, hby.trans (hbz.mono hsy)⟩, by simp [intOf]; omega⟩
                    rw [HS3.out]
                    have := HIf.out
                    simp only [Bool.false_eq_true, false_iff] at this ⊢
                    exact fun h => h.elim (fun h => this h) (fun h => HCm.out h.1)
                · go_upto_region 18 with fail
                  refine wp_region_grow wr.heap.size (by kernel_rfl) (by kernel_rfl) ?_
                  repeat (go_big_quiet_step (fail))
                  refine wpQuiet_nil ?_
                  rintro _ ⟨⟨wz, hbz⟩, rfl⟩
                  clear yc0 yd0 yd1 yd2 yd3 yd4
                  go_wp2_with fail
                  refine ⟨⟨j + 1, true, by omega, by go_num, rfl, hid ?_, hby.trans (hbz.mono hsy)⟩, by simp [intOf]; omega⟩
                  rw [HS3.out]
                  have := HIf.out
                  exact ⟨fun h => .inl (this.1 rfl), fun _ => rfl⟩
              · obtain rfl : j = A.length := by omega
                have hbe : withB (gs.getD k default) t now V m = b := by
                  have h1 := hiff.out
                  rw [List.take_length] at h1
                  rw [Bool.eq_iff_iff, withB_iff, h1]
                  exact HWk.out.symm
                have HO0 := hid (ownsRow_below hown.out hby)
                have BXR : Below WR.heap.size WR wr := hbx.trans (hby.mono hsx)
                cases b
                · have HO := hid (hL.out ▸ othersL_no hbe : othersL gs t now V m (k + 1) = L ++ [(k : Int)])
                  clear hbe hown
                  go_wp2_with (at_builtin; refine wpList_append_own _ rfl _ _ 52 rfl WR.heap.size 3 j0 (.int .i64 0) 1 8 Try.underlying52 hji hy0 hy1 hy2 rfl (by decide) _ _ _ rfl (HO0.out.alloc _) ⟨wr.heap.size, 0, none⟩ 1 1 [.int .i64 k] rfl rfl (by intro j u hj; match j, hj with | 0, hj => simp at hj; subst hj; simp [Addr.add, go_sem]) (by intro u hu; simp at hu; subst hu; rfl) (by unfold maxLen; omega) (by omega) (by simp; omega) ?_)
                  intro v' w1 hown' hgrow _
                  have bV : Below WR.heap.size wr w1 := ((Below.refl _ _).alloc (by omega) _).trans (below_own (HO0.out.alloc _) (Nat.le_refl _) (by simp; omega) hgrow)
                  have HO' := hid (show w1.ownsRow WR.heap.size 3 1 v' (L ++ [(k : Int)]).length (intVals (L ++ [(k : Int)])) by
                    have e : intVals (L ++ [(k : Int)]) = intVals L ++ [.int .i64 k] := by simp [intVals]
                    rw [e]; simpa using hown')
                  clear hown' hgrow
                  go_wp2_with fail
                  refine ⟨⟨k + 1, L ++ [(k : Int)], by omega, by go_num, by simp; omega, HO, HO', BXR.trans bV⟩, ?_⟩
                  simp [intOf]; omega
                · have HO := hid (hL.out ▸ othersL_yes hbe : othersL gs t now V m (k + 1) = L)
                  clear hbe hown
                  go_wp2_with fail
                  refine ⟨⟨k + 1, L, by omega, by go_num, by omega, HO, HO0, BXR⟩, ?_⟩
                  simp [intOf]; omega
          · obtain rfl : k = gs.length := by omega
            obtain ⟨oa, oc, hv, hI⟩ := intsAt_of_own hown.out
            subst hv
            have HI := hid hI
            have hAg := hid (HIa.out m L 0 ⟨HM.out, hL.out.symm, rfl⟩)
            clear hown hI
            go_wp2_with fail
            refine bodyPost_ret (v := .tuple #[.int .i64 m, .slice oa L.length oc, .int .i64 0]) (by simp [results, Try.results35, go_sem]) rfl ⟨m, L, 0, oa, oc, rfl, HI.out, by omega, hAg.out, BWR.trans (hbx.mono hsR)⟩
  · have ha' : (ae != 0) = true := by simp [ha]
    have HA := hid ha; clear ha
    go_wp2_with fail
    refine bodyPost_ret (v := .tuple #[.int .i64 0, .slice none 0 0, .int .i64 ae]) (by simp [results, Try.results35, go_sem, *]) rfl ⟨0, [], ae, none, 0, rfl, .inl rfl, by simp, (HIs.out _ _ _).2 (by rw [if_pos HA.out]; exact ⟨rfl, rfl, rfl⟩), BW2⟩
end Go.Proofs.Ytfjankkkeehioaa
