/- Tide, part SM: the reference's Sound. -/
import Derived.Test.YtblneiegekdnjaaGreatSK
import Derived.Lib.MinMax
set_option linter.all false
namespace Go.Proofs.YtblneiegekdnjaaGreat
open Go.RowKit Go.Shelf

theorem refOut_no {V : List Voice} {n : Int} {A : List Int} {f : Bool} {lo hi : Int} {k : Nat} (h : RefOut V n (A.take k) f lo hi) (hk : k < A.length) (hx : ¬ n ≤ cnt V A[k]) : RefOut V n (A.take (k + 1)) f lo hi := by
  rw [List.take_succ_eq_append_getElem hk]; exact h.snoc_no hx
theorem refOut_first {V : List Voice} {n : Int} {A : List Int} {lo hi : Int} {k : Nat} (h : RefOut V n (A.take k) false lo hi) (hk : k < A.length) (hx : n ≤ cnt V A[k]) : RefOut V n (A.take (k + 1)) true A[k] A[k] := by
  rw [List.take_succ_eq_append_getElem hk]
  have := h.snoc_first hx
  rwa [show min A[k] A[k] = A[k] by omega, show max A[k] A[k] = A[k] by omega] at this
theorem refOut_more {V : List Voice} {n : Int} {A : List Int} {lo hi : Int} {k : Nat} (h : RefOut V n (A.take k) true lo hi) (hk : k < A.length) (hx : n ≤ cnt V A[k]) : RefOut V n (A.take (k + 1)) true (min lo A[k]) (max hi A[k]) := by
  rw [List.take_succ_eq_append_getElem hk]; exact h.snoc_more hx

theorem two_sets' {W V : World} {b : Nat} {u0 u1 v0 v1 : Value} (r0 : W.cell? ⟨b, 0, none⟩ = some u0) (r1 : W.cell? ⟨b, 1, none⟩ = some u1) (hV : ((W.setCell ⟨b, 0, none⟩ v0).setCell ⟨b, 1, none⟩ v1).drew = V) :
    V.cell? ⟨b, 0, none⟩ = some v0 ∧ V.cell? ⟨b, 1, none⟩ = some v1 ∧ (∀ a o, a ≠ b → V.cell? ⟨a, o, none⟩ = W.cell? ⟨a, o, none⟩) ∧ (∀ a o, V.frozen? ⟨a, o, none⟩ = W.frozen? ⟨a, o, none⟩) ∧ V.heap.size = W.heap.size ∧ (∀ B w, B ≤ b → Below B w W → Below B w V) := by
  obtain ⟨h0, h1, h2⟩ := two_sets r0 r1 hV
  subst hV
  refine ⟨h0, h1, fun a o h => ?_, fun a o => ?_, by simp, h2⟩
  · have : ((W.setCell ⟨b, 0, none⟩ v0).setCell ⟨b, 1, none⟩ v1).cell? ⟨a, o, none⟩ = W.cell? ⟨a, o, none⟩ := (World.cell?_setCell_other _ _ _ _ (by intro e; injection e with e1 e2; exact h e1.symm)).trans (World.cell?_setCell_other _ _ _ _ (by intro e; injection e with e1 e2; exact h e1.symm))
    simpa using this
  · have : ((W.setCell ⟨b, 0, none⟩ v0).setCell ⟨b, 1, none⟩ v1).frozen? ⟨a, o, none⟩ = W.frozen? ⟨a, o, none⟩ := by rw [World.frozen?_setCell, World.frozen?_setCell]
    simpa using this
set_option maxRecDepth 100000 in
set_option maxHeartbeats 8000000 in
theorem rsound_any (a : Option Addr) (cap : Nat) (gs : List Gau) (wrong t now : Int) (w : World) (hlen : gs.length ≤ 140737488355328) (hgs : GausAt w a gs) :
    Calls Tryz.prog 28 #[.slice a gs.length cap, .int .i64 wrong, .int .i64 t, .int .i64 now] w
      fun e w' => ∃ r : (Int × Int) × Int, e = .returned (.tuple #[.agg #[.int .i64 r.1.1, .int .i64 r.1.2], .int .i64 r.2]) ∧ SoundIs gs wrong t now r ∧ Below w.heap.size w w' := by
  have HGs := hid hgs; clear hgs
  go_enter Tryz.func28, Tryz.ntmps28
  go_wp2_with fail
  generalize hW1 : World.alloc w _ = W1
  have B1 : Below w.heap.size w W1 := by rw [← hW1]; exact (Below.refl _ _).alloc (Nat.le_refl _) _
  have S1 : W1.heap.size = w.heap.size + 1 := by rw [← hW1]; simp
  have r0 : W1.cell? ⟨w.heap.size, 0, none⟩ = some (.int .i64 0) := by rw [← hW1]; simp [go_sem]
  have r1 : W1.cell? ⟨w.heap.size, 1, none⟩ = some (.int .i64 0) := by rw [← hW1]; simp [go_sem]
  have rf : ∀ o, W1.frozen? ⟨w.heap.size, o, none⟩ = false := by intro o; rw [← hW1]; simp [go_sem]
  clear hW1
  refine (rgauges_any a cap gs t now _ hlen (HGs.out.later B1 (Nat.le_refl _))).mono ?_
  rintro e W2 ⟨rfl, B2⟩
  have s2 := B2.size
  have BW2 : Below w.heap.size w W2 := B1.trans (B2.mono (by omega))
  have R0 := hid ((B2.cell (p := ⟨w.heap.size, 0, none⟩) (by show w.heap.size < _; omega)).trans r0)
  have R1 := hid ((B2.cell (p := ⟨w.heap.size, 1, none⟩) (by show w.heap.size < _; omega)).trans r1)
  have RF := hid (show ∀ o, W2.frozen? ⟨w.heap.size, o, none⟩ = false from fun o => (B2.frozen (p := ⟨w.heap.size, o, none⟩) (by show w.heap.size < _; omega)).trans (rf o))
  clear r0 r1 rf B2
  have HOk := hid (fun h => askE_ok (gs := gs) (t := t) (now := now) h)
  have HIs := hid (show ∀ r, SoundIs gs wrong t now r ↔ if askE gs t now ≠ 0 then r = ((0, 0), askE gs t now) else if ¬ (0 ≤ wrong ∧ wrong ≤ (gs.length : Int) - 1) then r = ((0, 0), 7) else SoundRes (voiceL gs t now gs.length) ((gs.length : Int) - wrong) r from fun r => Iff.rfl)
  generalize askE gs t now = ae at *
  by_cases ha : ae = 0
  · subst ha
    have hia : ∀ r, SoundIs gs wrong t now r ↔ if ¬ (0 ≤ wrong ∧ wrong ≤ (gs.length : Int) - 1) then r = ((0, 0), 7) else SoundRes (voiceL gs t now gs.length) ((gs.length : Int) - wrong) r := fun r => (HIs.out r).trans (by rw [if_neg (by simp)])
    have HIa := hid hia
    clear hia HIs
    obtain ⟨hl8, hgood, _, ht, _⟩ := HOk.out rfl
    have HGood := hid hgood
    clear HOk hgood
    have hwr : IntKind.i64.wrap ((gs.length : Int) - 1) = (gs.length : Int) - 1 := IntWalk.i64_in _ (by omega)
    cases hin : inB wrong 0 ((gs.length : Int) - 1)
    · have HIn := hid (inB_no.1 hin)
      have r0 := R0.out; have r1 := R1.out; have f0 := RF.out 0; have f1 := RF.out 1
      go_wp2_with (go_at_call 39; refine (rin_any _ _ _ _).mono ?_; rintro e w' ⟨rfl, rfl⟩)
      refine bodyPost_ret (v := .tuple #[.agg #[.int .i64 0, .int .i64 0], .int .i64 7]) (by simp [results, Tryz.results28, go_sem, *]) rfl ⟨((0, 0), 7), rfl, (HIa.out _).2 (by rw [if_pos HIn.out]), ?_⟩
      repeat (first | exact BW2 | refine Below.setCell ?_ (by simp <;> omega) _)
    · have HIn := hid (inB_iff.1 hin)
      have hw := HIn.out
      have hir : ∀ r, SoundRes (voiceL gs t now gs.length) ((gs.length : Int) - wrong) r → SoundIs gs wrong t now r := fun r hr => (HIa.out r).2 (by rw [if_neg (by simpa using HIn.out)]; exact hr)
      have HIr := hid hir
      clear hir HIa
      go_wp2_with (go_at_call 39; refine (rin_any _ _ _ _).mono ?_; rintro e w' ⟨rfl, rfl⟩)
      generalize hWb : World.alloc W2 _ = Wb
      have Bb : Below W2.heap.size W2 Wb := by rw [← hWb]; exact (Below.refl _ _).alloc (Nat.le_refl _) _
      have Sb : Wb.heap.size = W2.heap.size + 1 := by rw [← hWb]; simp
      have b0 : Wb.cell? ⟨W2.heap.size, 0, none⟩ = some (.int .i64 0) := by rw [← hWb]; simp [go_sem]
      have b1 : Wb.cell? ⟨W2.heap.size, 1, none⟩ = some (.int .i64 0) := by rw [← hWb]; simp [go_sem]
      have bf : ∀ o, Wb.frozen? ⟨W2.heap.size, o, none⟩ = false := by intro o; rw [← hWb]; simp [go_sem]
      clear hWb
      have BWb : Below w.heap.size w Wb := BW2.trans (Bb.mono (by omega))
      refine (rends_any a cap gs t now _ hl8 HGood.out ht (HGs.out.later BWb (Nat.le_refl _))).mono ?_
      rintro e W3 ⟨vb, vc, rfl, hv, hlo, B3⟩
      have s3 := B3.size
      have B23 : Below W2.heap.size W2 W3 := Bb.trans (B3.mono (by omega))
      have BW3 : Below w.heap.size w W3 := BW2.trans (B23.mono (by omega))
      have lw : w.heap.size < W2.heap.size := by omega
      have R0' := hid ((B23.cell (p := ⟨w.heap.size, 0, none⟩) lw).trans R0.out)
      have R1' := hid ((B23.cell (p := ⟨w.heap.size, 1, none⟩) lw).trans R1.out)
      have RF' := hid (show ∀ o, W3.frozen? ⟨w.heap.size, o, none⟩ = false from fun o => (B23.frozen (p := ⟨w.heap.size, o, none⟩) lw).trans (RF.out o))
      have P0 := hid ((B3.cell (p := ⟨W2.heap.size, 0, none⟩) (by show W2.heap.size < _; omega)).trans b0)
      have P1 := hid ((B3.cell (p := ⟨W2.heap.size, 1, none⟩) (by show W2.heap.size < _; omega)).trans b1)
      have PF := hid (show ∀ o, W3.frozen? ⟨W2.heap.size, o, none⟩ = false from fun o => (B3.frozen (p := ⟨W2.heap.size, o, none⟩) (by show W2.heap.size < _; omega)).trans (bf o))
      have HAg := hid (fun x W (hW : Below w.heap.size w W) => ragreed_any a cap gs x t now W hl8 HGood.out ht (HGs.out.later hW (Nat.le_refl _)))
      have hvl := voiceL_len gs t now gs.length
      have HVo := hid (voiceL_oks gs t now gs.length)
      clear R0 R1 RF b0 b1 bf B3 B23 Bb HGood HIn BWb
      generalize voiceL gs t now gs.length = V at *
      obtain ⟨n, hn⟩ : ∃ n : Int, (gs.length : Int) - wrong = n := ⟨_, rfl⟩
      have hn1 : 1 ≤ n ∧ n ≤ 8 := by omega
      have hwr2 : IntKind.i64.wrap ((gs.length : Int) - wrong) = (gs.length : Int) - wrong := IntWalk.i64_in _ (by omega)
      rw [hn] at HIr
      have HN := hid hn
      have hal : (atsOf V).length ≤ 16 := by rw [atsOf_len]; omega
      have HBd := hid (atsOf_bd HVo.out)
      have HEnd := hid (fun f lo hi h => refOut_end (V := V) (n := n) hn1.1 (f := f) (lo := lo) (hi := hi) h)
      generalize hA : atsOf V = A at *
      clear hA HVo
      obtain ⟨g, o, HC⟩ : ∃ g o : Nat, Hid (∀ i (h : i < A.length), vb = some ⟨g, o, none⟩ ∧ (W2.heap.size < g ∧ g < W3.heap.size) ∧ W3.cell? ⟨g, o + i, none⟩ = some (.int .i64 A[i])) := by
        rcases hv with h0 | ⟨g, o, hb, hs, hc⟩
        · exact ⟨0, 0, hid (fun i h => by rw [h0] at h; simp at h)⟩
        · exact ⟨g, o, hid (fun i h => ⟨hb, ⟨by have := hlo _ hb; simp at this; omega, hs⟩, hc i h⟩)⟩
      clear hv hlo
      go_wp2_with fail
      go_loopw [12, 14] (fun f i wr => ∃ (k : Nat) (fb : Bool) (lo hi : Int), k ≤ A.length ∧ i = .int .i64 k ∧ f = .bool fb ∧ Hid (RefOut V n (A.take k) fb lo hi) ∧
        Hid (wr.cell? ⟨W2.heap.size, 0, none⟩ = some (.int .i64 lo) ∧ wr.cell? ⟨W2.heap.size, 1, none⟩ = some (.int .i64 hi)) ∧ Hid (∀ o, wr.frozen? ⟨W2.heap.size, o, none⟩ = false) ∧
        Hid (wr.cell? ⟨w.heap.size, 0, none⟩ = some (.int .i64 0) ∧ wr.cell? ⟨w.heap.size, 1, none⟩ = some (.int .i64 0)) ∧ Hid (∀ o, wr.frozen? ⟨w.heap.size, o, none⟩ = false) ∧
        Hid (∀ i (h : i < A.length), wr.cell? ⟨g, o + i, none⟩ = some (.int .i64 A[i])) ∧ Below w.heap.size w wr ∧ Hid (W3.heap.size ≤ wr.heap.size)) (fun _ i _ => A.length - (intOf i).toNat)
      case atStart => exact ⟨0, false, 0, 0, Nat.zero_le _, rfl, rfl, hid (.inl ⟨rfl, by simp⟩), hid ⟨P0.out, P1.out⟩, PF, hid ⟨R0'.out, R1'.out⟩, RF', hid (fun i h => (HC.out i h).2.2), BW3, hid (Nat.le_refl _)⟩
      case round =>
        obtain ⟨k, fb, lo, hi, hk, rfl, rfl, href, hbx, hbf, hrx, hrf, hec, hbw, hsz⟩ := hrel
        have hszz := hbw.size
        by_cases hlt : k < A.length
        · obtain ⟨hbeq, ⟨hg1, hg2⟩, _⟩ := HC.out k hlt
          have ck := hec.out k hlt
          have hxb := HBd.out _ (List.getElem_mem hlt)
          have hkI : (k : Int) < (A.length : Int) := by omega
          have HNo := hid (fun hx => refOut_no href.out hlt hx)
          have HFi := hid (fun (hf : fb = false) hx => refOut_first (lo := lo) (hi := hi) (by have := href.out; rw [hf] at this; exact this) hlt hx)
          have HMo := hid (fun (hf : fb = true) hx => refOut_more (lo := lo) (hi := hi) (by have := href.out; rw [hf] at this; exact this) hlt hx)
          have ls := hsz.out
          rw [hbeq]
          clear hbeq
          generalize A[k] = x at *
          go_wp2_with fail
          refine (HAg.out x wr hbw).mono ?_
          rintro e W4 ⟨rfl, B4⟩
          have s4 := B4.size
          have lX : W2.heap.size < wr.heap.size := by omega
          have u0 := (B4.cell (p := ⟨W2.heap.size, 0, none⟩) lX).trans hbx.out.1
          have u1 := (B4.cell (p := ⟨W2.heap.size, 1, none⟩) lX).trans hbx.out.2
          have UF := hid (show ∀ o, W4.frozen? ⟨W2.heap.size, o, none⟩ = false from fun o => (B4.frozen (p := ⟨W2.heap.size, o, none⟩) lX).trans (hbf.out o))
          have uf0 := UF.out 0; have uf1 := UF.out 1
          have lR : w.heap.size < wr.heap.size := by omega
          have V0 := hid ((B4.cell (p := ⟨w.heap.size, 0, none⟩) lR).trans hrx.out.1)
          have V1 := hid ((B4.cell (p := ⟨w.heap.size, 1, none⟩) lR).trans hrx.out.2)
          have VF := hid (show ∀ o, W4.frozen? ⟨w.heap.size, o, none⟩ = false from fun o => (B4.frozen (p := ⟨w.heap.size, o, none⟩) lR).trans (hrf.out o))
          have EC := hid (show ∀ i (h : i < A.length), W4.cell? ⟨g, o + i, none⟩ = some (.int .i64 A[i]) from fun i h => (B4.cell (p := ⟨g, o + i, none⟩) (by show g < _; omega)).trans (hec.out i h))
          have ck4 := (B4.cell (p := ⟨g, o + k, none⟩) (by show g < _; omega)).trans ck
          have BW4 : Below w.heap.size w W4 := hbw.trans (B4.mono hszz)
          have hg4 : g < W4.heap.size := by omega
          clear ck hbx hbf hrx hrf hec B4
          have hcl := cnt_le V x
          by_cases hcn : (cnt V x : Int) < n
          · have hcd : decide ((cnt V x : Int) < n) = true := by simp [hcn]
            have HCn := hid hcn; clear hcn
            go_wp2_with fail
            refine ⟨⟨k + 1, fb, lo, hi, by omega, by go_num, rfl, hid (HNo.out (by have := HCn.out; omega)), hid ⟨u0, u1⟩, UF, hid ⟨V0.out, V1.out⟩, VF, EC, BW4, hid (by omega)⟩, ?_⟩
            simp [intOf]; omega
          · have hcd : decide ((cnt V x : Int) < n) = false := by simp; omega
            have HCn := hid hcn; clear hcn
            cases fb
            · go_upto_region 14 with fail
              go_region
              obtain ⟨y0, y1, hoth, hfro, hszv, hlow⟩ := two_sets' (v0 := .int .i64 x) (v1 := .int .i64 x) u0 u1 rfl
              have BW5 := hlow w.heap.size w (by omega) BW4
              have ck5 := (hoth g (o + k) (by omega)).trans ck4
              have uf0 := (hfro W2.heap.size 0).trans (UF.out 0); have uf1 := (hfro W2.heap.size 1).trans (UF.out 1)
              have UF5 := hid (show ∀ o, _ from fun o => (hfro W2.heap.size o).trans (UF.out o))
              have V05 := hid ((hoth w.heap.size 0 (by omega)).trans V0.out)
              have V15 := hid ((hoth w.heap.size 1 (by omega)).trans V1.out)
              have VF5 := hid (show ∀ o, _ from fun o => (hfro w.heap.size o).trans (VF.out o))
              have EC5 := hid (show ∀ i (h : i < A.length), _ from fun i h => (hoth g (o + i) (by omega)).trans (EC.out i h))
              have hsz5 := hid (hszv.trans rfl)
              clear hlow u0 u1 ck4 hoth hfro UF V0 V1 VF EC BW4
              generalize World.drew _ = W5 at *
              go_upto_region 15 with fail
              go_region
              obtain ⟨z0, z1, hoth, hfro, hszw, hlow⟩ := two_sets' (v0 := .int .i64 x) (v1 := .int .i64 x) y0 y1 rfl
              have BW6 := hlow w.heap.size w (by omega) BW5
              have UF6 := hid (show ∀ o, _ from fun o => (hfro W2.heap.size o).trans (UF5.out o))
              have V06 := hid ((hoth w.heap.size 0 (by omega)).trans V05.out)
              have V16 := hid ((hoth w.heap.size 1 (by omega)).trans V15.out)
              have VF6 := hid (show ∀ o, _ from fun o => (hfro w.heap.size o).trans (VF5.out o))
              have EC6 := hid (show ∀ i (h : i < A.length), _ from fun i h => (hoth g (o + i) (by omega)).trans (EC5.out i h))
              clear hlow y0 y1 ck5 hoth hfro UF5 V05 V15 VF5 EC5 BW5
              generalize World.drew _ = W6 at *
              go_wp2_with fail
              refine ⟨⟨k + 1, true, x, x, by omega, by go_num, rfl, hid (HFi.out (by simp) (by have := HCn.out; omega)), hid ⟨z0, z1⟩, UF6, hid ⟨V06.out, V16.out⟩, VF6, EC6, BW6, hid (by omega)⟩, ?_⟩
              simp [intOf]; omega
            · go_upto_region 15 with fail
              go_region
              obtain ⟨z0, z1, hoth, hfro, hszw, hlow⟩ := two_sets' (v0 := .int .i64 (min lo x)) (v1 := .int .i64 (max hi x)) u0 u1 rfl
              have BW6 := hlow w.heap.size w (by omega) BW4
              have UF6 := hid (show ∀ o, _ from fun o => (hfro W2.heap.size o).trans (UF.out o))
              have V06 := hid ((hoth w.heap.size 0 (by omega)).trans V0.out)
              have V16 := hid ((hoth w.heap.size 1 (by omega)).trans V1.out)
              have VF6 := hid (show ∀ o, _ from fun o => (hfro w.heap.size o).trans (VF.out o))
              have EC6 := hid (show ∀ i (h : i < A.length), _ from fun i h => (hoth g (o + i) (by omega)).trans (EC.out i h))
              clear hlow u0 u1 ck4 hoth hfro UF V0 V1 VF EC BW4
              generalize World.drew _ = W6 at *
              go_wp2_with fail
              refine ⟨⟨k + 1, true, min lo x, max hi x, by omega, by go_num, rfl, hid (HMo.out (by simp) (by have := HCn.out; omega)), hid ⟨z0, z1⟩, UF6, hid ⟨V06.out, V16.out⟩, VF6, EC6, BW6, hid (by omega)⟩, ?_⟩
              simp [intOf]; omega
        · obtain rfl : k = A.length := by omega
          have hre := href.out
          rw [List.take_length] at hre
          have HRes := hid (HIr.out _ (HEnd.out _ _ _ hre))
          have r0 := hrx.out.1; have r1 := hrx.out.2; have f0 := hrf.out 0; have f1 := hrf.out 1
          have u0 := hbx.out.1; have u1 := hbx.out.2
          clear hre href hrx hrf hbx hbf hec HC P0 P1 PF R0' R1' RF'
          cases fb
          · go_wp2_with fail
            refine bodyPost_ret (v := .tuple #[.agg #[.int .i64 0, .int .i64 0], .int .i64 9]) (by simp [results, Tryz.results28, go_sem, *]) rfl ⟨((0, 0), 9), rfl, HRes.out, ?_⟩
            repeat (first | exact hbw | refine Below.setCell ?_ (by simp <;> omega) _)
          · go_wp2_with fail
            refine bodyPost_ret (v := .tuple #[.agg #[.int .i64 lo, .int .i64 hi], .int .i64 0]) (by simp [results, Tryz.results28, go_sem, *]) rfl ⟨lo, hi, 0, rfl, HRes.out, ?_⟩
            repeat (first | exact hbw | refine Below.setCell ?_ (by simp <;> omega) _)
  · have ha' : (ae != 0) = true := by simp [ha]
    have ha2 : (ae == 0) = false := by simp [ha]
    have HA := hid ha; clear ha
    have r0 := R0.out; have r1 := R1.out; have f0 := RF.out 0; have f1 := RF.out 1
    go_wp2_with fail
    refine bodyPost_ret (v := .tuple #[.agg #[.int .i64 0, .int .i64 0], .int .i64 ae]) (by simp [results, Tryz.results28, go_sem, *]) rfl ⟨((0, 0), ae), rfl, (HIs.out _).2 (by rw [if_pos HA.out]), ?_⟩
    repeat (first | exact BW2 | refine Below.setCell ?_ (by simp <;> omega) _)
end Go.Proofs.YtblneiegekdnjaaGreat
