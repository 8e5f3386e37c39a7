/- Tide, part ZR: TideCycles' walk. -/
import Derived.Test.YtfjankkkeehioaaZQ
set_option linter.all false
namespace Go.Proofs.Ytfjankkkeehioaa
open Go.RowKit

set_option maxRecDepth 100000 in
set_option maxHeartbeats 8000000 in
theorem cycles_any (mean : Int) (a : Option Addr) (cap : Nat) (cs : List Con) (t : Int) (w : World) (hok : ConsOk w a cap cs) :
    Calls Try.prog 10 #[.agg #[.int .i64 mean, .slice a cs.length cap], .int .i64 t] w
      fun e w' => e = .returned (.bool true) ∧ Below w.heap.size w w' := by
  obtain ⟨q, hq⟩ : ∃ q, levelP mean cs t = q := ⟨_, rfl⟩
  have hpb := periodP_bd mean cs
  obtain ⟨pp, hpp⟩ : ∃ pp, periodP mean cs = pp := ⟨_, rfl⟩
  rw [hpp] at hpb
  have HPB := hid hpb
  have HH := hid hok; have HQ := hid hq; have HPP := hid hpp; clear hok hq hpp hpb
  obtain ⟨ha, hc, hrows⟩ := HH.out.rows
  have HRw := hid hrows; clear hrows
  obtain ⟨i0, hi, hz0, hz1, hz2⟩ := info_parts A.infoCon
  go_enter Try.func10, Try.ntmps10
  go_wp2_with fail
  generalize hW1 : World.alloc w _ = W1
  have B1 : Below w.heap.size w W1 := by rw [← hW1]; exact (Below.refl _ _).alloc (Nat.le_refl _) _
  have S1 : w.heap.size < W1.heap.size := by rw [← hW1]; simp
  have M0 := hid (show W1.cell? ⟨w.heap.size, 0, none⟩ = some (.int .i64 mean) by rw [← hW1]; simp [go_sem])
  have M1 := hid (show W1.cell? ⟨w.heap.size, 1, none⟩ = some (.slice a cs.length cap) by rw [← hW1]; simp [go_sem])
  clear hW1
  refine (periodVal mean a cap cs pp _ (HH.out.later B1 (Nat.le_refl _)) HPP.out).mono ?_
  rintro e W2 ⟨rfl, B2⟩
  have BW2 : Below w.heap.size w W2 := B1.trans (B2.mono (by omega))
  have G2 : Below W1.heap.size W1 W2 := B2
  clear B2
  have c0 := (G2.cell (p := ⟨w.heap.size, 0, none⟩) S1).trans M0.out
  have c1 := (G2.cell (p := ⟨w.heap.size, 1, none⟩) S1).trans M1.out
  go_wp2_with fail
  refine (levelVal mean a cap cs t q _ (HH.out.later BW2 (Nat.le_refl _)) HQ.out).mono ?_
  rintro e W3 ⟨rfl, B3⟩
  have BW3 : Below w.heap.size w W3 := BW2.trans (B3.mono BW2.size)
  have G3 : Below W1.heap.size W1 W3 := G2.trans (B3.mono G2.size)
  clear B3 G2 BW2 c0 c1
  have c0 := (G3.cell (p := ⟨w.heap.size, 0, none⟩) S1).trans M0.out
  have c1 := (G3.cell (p := ⟨w.heap.size, 1, none⟩) S1).trans M1.out
  have l3 : w.heap.size < W3.heap.size := Nat.lt_of_lt_of_le S1 G3.size
  have n3 : w.heap.size ≠ W3.heap.size := by omega
  by_cases hq0 : q.2 = 0
  · have hqf : (q.2 != 0) = false := by simp [hq0]
    obtain ⟨hck, htt, hqv⟩ := levelP_ok HQ.out hq0
    obtain ⟨ht0, ht1⟩ := htt
    have HQ0 := hid hq0; have HCk := hid hck; have HQv := hid hqv
    have HG := hid (tabGood_of hck)
    clear hq0 hck hqv
    obtain ⟨q2, hq2⟩ : ∃ q2, levelP mean cs (t + 1) = q2 := ⟨_, rfl⟩
    have HQ2 := hid hq2; clear hq2
    have hways : (pp.2 = 0 ∧ pp.1 ≤ 200000 ∧ t ≤ 200000 - pp.1) ∨ pp.2 ≠ 0 ∨ (pp.2 = 0 ∧ 200000 < pp.1) ∨ (pp.2 = 0 ∧ pp.1 ≤ 200000 ∧ 200000 - pp.1 < t) := by omega
    rcases hways with ⟨he, hn, htn⟩ | he | ⟨he, hn⟩ | ⟨he, hn, htn⟩
    focus
      obtain ⟨n, hn1, hn2, hn3⟩ := periodP_ok HPP.out he
      have hlv : levelP mean cs (t + pp.1) = q := by
        rw [levelP_of HCk.out (by omega), HQv.out, hn1, levelAt_period HG.out.2.2 hn3]
      have HLv := hid hlv
      have hpos : 1 ≤ pp.1 := by omega
      have he' : (pp.2 == 0) = true := by simp [he]
      have hqt : (q.2 == 0) = true := by simp [HQ0.out]
      clear hn1 hn2 hn3 hlv he
      go_wp2_with fail
      refine (levelVal mean a cap cs (t + pp.1) q _ (HH.out.later (BW3.alloc (Nat.le_of_lt l3) _) (Nat.le_refl _)) HLv.out).mono ?_
      rintro e W4 ⟨rfl, B4⟩
      have a0 : W4.cell? ⟨W3.heap.size, 0, none⟩ = some (.int .i64 q.1.1) := (B4.cell (p := ⟨W3.heap.size, 0, none⟩) (by simp)).trans (by simp [go_sem])
      have a1 : W4.cell? ⟨W3.heap.size, 1, none⟩ = some (.int .i64 q.1.2) := (B4.cell (p := ⟨W3.heap.size, 1, none⟩) (by simp)).trans (by simp [go_sem])
      have BW4 : Below w.heap.size w W4 := (BW3.alloc (Nat.le_of_lt l3) _).trans (B4.mono (by simp; omega))
      have G4 : Below W1.heap.size W1 W4 := (G3.alloc G3.size _).trans (B4.mono (by have := G3.size; simp; omega))
      have l4 : W3.heap.size < W4.heap.size := by have := B4.size; simp at this; omega
      have n4 : W3.heap.size ≠ W4.heap.size := by omega
      clear B4 c0 c1
      have c0 := (G4.cell (p := ⟨w.heap.size, 0, none⟩) S1).trans M0.out
      have c1 := (G4.cell (p := ⟨w.heap.size, 1, none⟩) S1).trans M1.out
      have n4' : w.heap.size ≠ W4.heap.size := by omega
      have l4' : w.heap.size < W4.heap.size := by omega
      go_wp2_with fail
      generalize hWX : World.alloc W4 _ = WX
      have BX : Below w.heap.size w WX := by rw [← hWX]; exact BW4.alloc (by omega) _
      have GX : Below W1.heap.size W1 WX := by rw [← hWX]; exact G4.alloc G4.size _
      clear hWX a0 a1 c0 c1 G4 BW4
    rotate_left
    focus
      have he' : (pp.2 == 0) = false := by simp [he]
      clear he
      go_wp2_with fail
      generalize hWX : World.alloc W3 _ = WX
      have BX : Below w.heap.size w WX := by rw [← hWX]; exact BW3.alloc (by omega) _
      have GX : Below W1.heap.size W1 WX := by rw [← hWX]; exact G3.alloc G3.size _
      clear hWX c0 c1
    rotate_left
    focus
      have he' : (pp.2 == 0) = true := by simp [he]
      have hn' : decide (pp.1 ≤ 200000) = false := by simp; omega
      clear he
      go_wp2_with fail
      generalize hWX : World.alloc W3 _ = WX
      have BX : Below w.heap.size w WX := by rw [← hWX]; exact BW3.alloc (by omega) _
      have GX : Below W1.heap.size W1 WX := by rw [← hWX]; exact G3.alloc G3.size _
      clear hWX c0 c1
    rotate_left
    focus
      have he' : (pp.2 == 0) = true := by simp [he]
      have hpb1 := HPB.out.1
      clear he
      go_wp2_with fail
      generalize hWX : World.alloc W3 _ = WX
      have BX : Below w.heap.size w WX := by rw [← hWX]; exact BW3.alloc (by omega) _
      have GX : Below W1.heap.size W1 WX := by rw [← hWX]; exact G3.alloc G3.size _
      clear hWX c0 c1
    rotate_left
    all_goals
      refine (levelVal mean a cap cs (t + 1) q2 _ (HH.out.later BX (Nat.le_refl _)) HQ2.out).mono ?_
      rintro e W5 ⟨rfl, B5⟩
      have BW5 : Below w.heap.size w W5 := BX.trans (B5.mono BX.size)
      have G5 : Below W1.heap.size W1 W5 := GX.trans (B5.mono GX.size)
      clear B5 BX GX BW3 G3 l3 n3
      have c0 := (G5.cell (p := ⟨w.heap.size, 0, none⟩) S1).trans M0.out
      have c1 := (G5.cell (p := ⟨w.heap.size, 1, none⟩) S1).trans M1.out
      have l5 : w.heap.size < W5.heap.size := Nat.lt_of_lt_of_le S1 G5.size
      have n5 : w.heap.size ≠ W5.heap.size := by omega
      have n5' : w.heap.size ≠ W5.heap.size + 1 := by omega
      by_cases h2 : t = 200000
      · first
          | (exfalso; omega)
          | (have hq2' : (q2.2 != 0) = true := by
               rw [← HQ2.out]
               have hf : inB (t + 1) 0 200000 = false := by rw [inB_no]; omega
               simp [levelP, HCk.out, hf]
             go_wp2_with fail
             refine (awake_any _).mono ?_
             rintro e W6 ⟨rfl, B6⟩
             go_wp2_with fail
             go_ret
             exact ⟨rfl, (BW5.alloc (Nat.le_of_lt l5) _).trans (B6.mono (by simp; omega))⟩)
      · have hlt2 : t < 200000 := by omega
        have hq2v : q2 = (levelAt mean cs (t + 1), 0) := by rw [← HQ2.out]; exact levelP_of HCk.out (by omega)
        have hq2' : (q2.2 != 0) = false := by rw [hq2v]; rfl
        have HQ2v := hid hq2v; clear hq2v h2
        go_wp2_with fail
        generalize hWs : World.alloc (World.alloc W5 _) _ = Ws
        have BWs : Below w.heap.size w Ws := by rw [← hWs]; exact (BW5.alloc (by omega) _).alloc (by simp; omega) _
        have GWs : Below W1.heap.size W1 Ws := by have := G5.size; rw [← hWs]; exact (G5.alloc (by omega) _).alloc (by simp; omega) _
        have sWs : Ws.heap.size = W5.heap.size + 2 := by rw [← hWs]; simp
        have N0 := hid (show Ws.cell? ⟨W5.heap.size, 0, none⟩ = some (.int .i64 q2.1.1) by rw [← hWs]; simp [go_sem])
        have N1 := hid (show Ws.cell? ⟨W5.heap.size, 1, none⟩ = some (.int .i64 q2.1.2) by rw [← hWs]; simp [go_sem])
        have U0 := hid (show Ws.cell? ⟨W5.heap.size + 1, 0, none⟩ = some (.int .i64 mean) by rw [← hWs]; simp [go_sem])
        have U1 := hid (show Ws.cell? ⟨W5.heap.size + 1, 1, none⟩ = some (.slice none 0 0) by rw [← hWs]; simp [go_sem])
        have UF := hid (show ∀ o, Ws.frozen? ⟨W5.heap.size + 1, o, none⟩ = false by intro o; rw [← hWs]; simp [go_sem])
        clear hWs c0 c1 BW5
        go_loopw [13] (fun i wr => ∃ k : Nat, k ≤ cs.length ∧ i = .int .i64 k ∧ Hid (∃ v, wr.ownsRow Ws.heap.size 68 6 v k (conVals (rowsOf (fun _ c => shiftC c) ha hc cs k)) ∧ wr.cell? ⟨W5.heap.size + 1, 1, none⟩ = some v) ∧
          Hid (wr.cell? ⟨W5.heap.size + 1, 0, none⟩ = some (.int .i64 mean)) ∧ Hid (∀ o, wr.frozen? ⟨W5.heap.size + 1, o, none⟩ = false) ∧ Below (W5.heap.size + 1) Ws wr) (fun i _ => cs.length - (intOf i).toNat)
        case atStart => exact ⟨0, Nat.zero_le _, rfl, hid ⟨_, World.ownsRow_nil _ _ _ _, U1.out⟩, U0, UF, Below.refl _ _⟩
        case round =>
          obtain ⟨k, hk, rfl, hvo, hu0, huf, hbw⟩ := hrel
          obtain ⟨v, hown, hu1⟩ := hvo.out
          have HOwn := hid hown; clear hown hvo
          have hsz := hbw.size
          have e0 := (hbw.cell (p := ⟨w.heap.size, 0, none⟩) (by simp; omega)).trans ((GWs.cell (p := ⟨w.heap.size, 0, none⟩) S1).trans M0.out)
          have e1 := (hbw.cell (p := ⟨w.heap.size, 1, none⟩) (by simp; omega)).trans ((GWs.cell (p := ⟨w.heap.size, 1, none⟩) S1).trans M1.out)
          have hbl : Below w.heap.size w wr := BWs.trans (hbw.mono (by omega))
          have lr : W5.heap.size + 1 < wr.heap.size := by omega
          by_cases hlt : k < cs.length
          · obtain ⟨b, o, rfl, hs, hca⟩ := HRw.out k hlt
            obtain ⟨d0, d1, d2, d3, d4, d5, _⟩ := hca.later hs hbl (Nat.le_refl _)
            have HSn := hid (rowsOf_snoc (fun _ c => shiftC c) ha hc cs k hlt)
            have hgd := HG.out.2.2 cs[k] (List.getElem_mem _)
            have hcy := cyc_bd hgd
            obtain ⟨g1, g2, gh, g3, g4, g5, g6, g7, g8, g9, g10⟩ := hgd
            have hlen := HG.out.2.1
            clear gh hca
            generalize cs[k] = c at *
            generalize ha k = hak at *
            generalize hc k = hck at *
            have hcc : c.den * (c.hs.length : Int) = cyc c := rfl
            have HSh := hid (show conCells (shiftC c) hak hck = [.string c.name, .slice hak c.hs.length hck, .int .i64 ((c.off + c.step) % cyc c), .int .i64 c.step, .int .i64 c.den, .int .i64 c.slack] from rfl)
            generalize cyc c = cy at *
            obtain ⟨hcy1, hcy2⟩ := hcy
            have hcy0 : ¬ cy = 0 := by omega
            have uf1 := huf.out 1
            go_wp2_with (at_builtin; refine wpList_append_own _ rfl _ _ 22 rfl Ws.heap.size 68 i0 (.agg #[.string ⟨#[]⟩, .slice none 0 0, .int .i64 0, .int .i64 0, .int .i64 0, .int .i64 0]) 6 72 Try.underlying22 hi hz0 hz1 hz2 rfl (by decide) _ _ _ rfl ((HOwn.out.alloc _).alloc _) ⟨wr.heap.size + 1, 0, none⟩ 1 1 [.string c.name, .slice hak c.hs.length hck, .int .i64 ((c.off + c.step) % cy), .int .i64 c.step, .int .i64 c.den, .int .i64 c.slack] rfl rfl (by intro j u hj; match j, hj with | 0, hj => simp at hj; subst hj; simp [Addr.add, go_sem] | 1, hj => simp at hj; subst hj; simp [Addr.add, go_sem] | 2, hj => simp at hj; subst hj; simp [Addr.add, go_sem] | 3, hj => simp at hj; subst hj; simp [Addr.add, go_sem] | 4, hj => simp at hj; subst hj; simp [Addr.add, go_sem] | 5, hj => simp at hj; subst hj; simp [Addr.add, go_sem]) (by intro u hu; simp at hu; rcases hu with rfl | rfl | rfl | rfl | rfl | rfl <;> rfl) (by unfold maxLen; omega) (by omega) (by simp; omega) ?_)
            intro v' w1 hown' hgrow _
            have bV : Below (W5.heap.size + 2) wr w1 := (((Below.refl _ _).alloc (by omega) _).alloc (by simp; omega) _).trans (below_own ((HOwn.out.alloc _).alloc _) (by omega) (by simp; omega) hgrow)
            have x1 := (bV.cell (p := ⟨W5.heap.size + 1, 1, none⟩) (by simp)).trans hu1
            have x0 := hid ((bV.cell (p := ⟨W5.heap.size + 1, 0, none⟩) (by simp)).trans hu0.out)
            have xf : ∀ o, w1.frozen? ⟨W5.heap.size + 1, o, none⟩ = false := fun o => (bV.frozen (p := ⟨W5.heap.size + 1, o, none⟩) (by simp)).trans (huf.out o)
            have xf1 := xf 1
            have HXf := hid xf
            have BX : Below (W5.heap.size + 1) Ws w1 := hbw.trans (bV.mono (by omega))
            have HO := hid (show w1.ownsRow Ws.heap.size 68 6 v' (k + 1) (conVals (rowsOf (fun _ c => shiftC c) ha hc cs (k + 1))) by rw [HSn.out, conVals_snoc, HSh.out, sWs]; exact hown')
            obtain ⟨g, cp, hv'⟩ : ∃ g cp, v' = .slice (some ⟨g, 0, none⟩) (k + 1) cp := by
              rcases HO.out.2 with ⟨_, h⟩ | ⟨g, cp, _, h, _⟩
              · omega
              · exact ⟨g, cp, h⟩
            subst hv'
            have sx := bV.size
            clear hown' hgrow xf bV d0 d1 d2 d3 d4 d5 hu1 uf1 e0 e1
            go_wp2_with fail
            refine ⟨⟨k + 1, by omega, by go_num, hid ⟨.slice (some ⟨g, 0, none⟩) (k + 1) cp, ?_, ?_⟩, hid ?_, hid (fun o => by simpa using HXf.out o), ?_⟩, by simp [intOf]; omega⟩
            · exact ownsRow_set HO.out _ _ (ownsRow_lt HO.out (.inl (by simp; omega)))
            · exact World.cell?_setCell_same _ _ _ x1
            · rw [World.cell?_setCell_other _ _ _ _ (by simp)]; exact x0.out
            · exact BX.setCell (p := ⟨W5.heap.size + 1, 1, none⟩) (Nat.le_refl _) _
          · obtain rfl : k = cs.length := by omega
            have hlen := HG.out.2.1
            obtain ⟨a', cap', hv, hcok⟩ := consOk_of_own (l := rowsOf (fun _ c => shiftC c) ha hc cs cs.length) (by rw [rowsOf_len]; exact HOwn.out) (by rw [rowsOf_len]; omega) (by
              intro r hr
              obtain ⟨i, hi', rfl⟩ := List.mem_map.1 hr
              have hi2 : i < cs.length := List.mem_range.1 hi'
              obtain ⟨b, o, _, hs, hca⟩ := HRw.out i hi2
              have e : cs.getD i default = cs[i] := by simp [List.getD, hi2]
              simp only [e]
              exact ⟨shift_wf (HH.out.wf _ (List.getElem_mem _)) (HG.out.2.2 _ (List.getElem_mem _)), (show IntsAt w (ha i) cs[i].hs from hca.hs).later hbl (Nat.le_refl _)⟩)
            rw [rowsOf_len] at hv
            rw [rowsOf_fst] at hcok
            subst hv
            have HCk' := hid hcok
            have hLv : levelP mean (cs.mapIdx fun _ c => shiftC c) t = q2 := by
              rw [HQ2v.out, ← levelAt_shift]
              exact levelP_of (by rw [checkP_map (f := fun _ c => shiftC c) (fun _ _ => rfl) (fun _ c hc => shift_good hc) HCk.out]) (by omega)
            have HLv' := hid hLv
            have u0 := hu0.out
            have m0 := (hbw.cell (p := ⟨W5.heap.size, 0, none⟩) (by simp)).trans N0.out
            have m1 := (hbw.cell (p := ⟨W5.heap.size, 1, none⟩) (by simp)).trans N1.out
            clear hcok hLv HOwn
            go_wp2_with fail
            refine (levelValN mean a' cap' cs.length (cs.mapIdx fun _ c => shiftC c) t q2 _ (by simp) HCk'.out HLv'.out).mono ?_
            rintro e W6 ⟨rfl, B6⟩
            have m0' := (B6.cell (p := ⟨W5.heap.size, 0, none⟩) (by simp; omega)).trans m0
            have m1' := (B6.cell (p := ⟨W5.heap.size, 1, none⟩) (by simp; omega)).trans m1
            have s6 := B6.size
            have n6 : W5.heap.size ≠ W6.heap.size := by omega
            have l6 : W5.heap.size < W6.heap.size := by omega
            have hq2t : (q2.2 == 0) = true := by rw [HQ2v.out]; rfl
            have BL : Below w.heap.size w W6 := hbl.trans (B6.mono (by omega))
            clear B6 m0 m1 e0 e1 u0 hu1
            go_wp2_with fail
            refine (awake_any _).mono ?_
            rintro e W7 ⟨rfl, B7⟩
            have BL7 : Below w.heap.size w W7 := (BL.alloc (by omega) _).trans (B7.mono (by simp; omega))
            clear B7 BL m0' m1'
            go_wp2_with fail
            go_ret
            exact ⟨rfl, BL7⟩
  · have hqf : (q.2 != 0) = true := by simp [hq0]
    go_wp2_with fail
    refine (awake_any _).mono ?_
    rintro e W4 ⟨rfl, B4⟩
    go_wp2_with fail
    go_ret
    exact ⟨rfl, (BW3.alloc (Nat.le_of_lt l3) _).trans (B4.mono (by simp; omega))⟩
end Go.Proofs.Ytfjankkkeehioaa
