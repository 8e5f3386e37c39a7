/- Tide, part ZGS: High and Period of the reference (great seat). -/
import Derived.Test.YtblneiegekdnjaaGreatZGH
import Derived.Test.YtblneiegekdnjaaGreatZP
set_option linter.all false
namespace Go.Proofs.YtblneiegekdnjaaGreat
open Go.RowKit

def canB (L : List (Int × Int)) (b : Int) (k : Nat) : Bool := (L.take k).all fun s => decide (s.1 ≤ b)
theorem canB_snoc (L : List (Int × Int)) (b : Int) (k : Nat) (h : k < L.length) : canB L b (k + 1) = (canB L b k && decide (L[k].1 ≤ b)) := by
  unfold canB; rw [List.take_succ_eq_append_getElem h, List.all_append]; simp
theorem canB_all (L : List (Int × Int)) {b : Int} (hb : -9223372036854775808 ≤ b) : canB L b L.length = true ↔ sureOf L ≤ b := by
  unfold canB; rw [List.take_length]; exact (sureOf_le L hb).symm

set_option maxRecDepth 100000 in
set_option maxHeartbeats 4000000 in
theorem rhigh_any (mean : Int) (a : Option Addr) (cap : Nat) (cs : List Con) (x n : Int) (w : World) (hok : ConsOk w a cap cs) :
    Calls Tryz.prog 6 #[.agg #[.int .i64 mean, .slice a cs.length cap], .int .i64 x, .int .i64 n] w
      fun e w' => ∃ la lc, e = .returned (.tuple #[.slice la (highP mean cs x n).1.length lc, .int .i64 (highP mean cs x n).2]) ∧ IntsAt w' la (highP mean cs x n).1 ∧ Below w.heap.size w w' := by
  have hlen := levelsP_len mean cs x n
  have hP := highP_eq mean cs x n
  obtain ⟨L, hL⟩ : ∃ L, levelsP mean cs x n = L := ⟨_, rfl⟩
  rw [hL] at hlen hP
  have HP := hid hP; have HH := hid hok; have HL := hid hL
  clear hok hL hP
  obtain ⟨i0, hi, hz0, hz1, hz2⟩ := info_parts A.infoInt
  go_enter Tryz.func6, Tryz.ntmps6
  go_wp2_with fail
  generalize hW1 : World.alloc w _ = W1
  have B1 : Below w.heap.size w W1 := by rw [← hW1]; exact (Below.refl _ _).alloc (Nat.le_refl _) _
  have S1 : w.heap.size < W1.heap.size := by rw [← hW1]; simp
  clear hW1
  refine (rlevelsVal mean a cap cs x n L _ (HH.out.later B1 (Nat.le_refl _)) HL.out).mono ?_
  rintro e W2 ⟨la, lc, rfl, hsp, B2⟩
  have BW : Below w.heap.size w W2 := B1.trans (B2.mono (by omega))
  have HSp := hid hsp; clear hsp B2
  have hsW := BW.size
  by_cases hq : L.2 = 0
  · have hq' : (L.2 != 0) = false := by simp [hq]
    obtain ⟨hck, m, rfl, hm4, htk, hLm⟩ := levelsP_ok HL.out hq
    have hgd := tabGood_of hck
    obtain ⟨hLl, hbd⟩ := levelsL_bd hgd.1 hgd.2.1 hgd.2.2 x m hLm
    have HTk := hid (ticksB_iff.1 htk)
    have HBd := hid hbd
    have HLl := hid hLl
    have HR := hid (show highP mean cs x m = (highK L.1 x L.1.length, 0) by rw [HP.out, if_neg (by simp [hq])])
    clear hq hck hgd hbd hLm htk hLl
    go_wp2_with fail
    have HYes := hid (fun k h hs => highK_yes (L := L.1) (x := x) (k := k) h hs)
    have HNo := hid (fun k h hs => highK_no (L := L.1) (x := x) (k := k) h hs)
    have HHl := hid (highK_len L.1 x)
    go_loopw [10, 11] (fun v i wr => ∃ k : Nat, k ≤ L.1.length ∧ i = .int .i64 k ∧ Hid (wr.ownsRow W2.heap.size 3 1 v (highK L.1 x k).length (intVals (highK L.1 x k))) ∧ Below W2.heap.size W2 wr) (fun _ i _ => L.1.length - (intOf i).toNat)
    case atStart => exact ⟨0, Nat.zero_le _, rfl, hid (World.ownsRow_nil _ _ _ _), Below.refl _ _⟩
    case round =>
      obtain ⟨k, hk, rfl, hown, hbj⟩ := hrel
      have hszj := hbj.size
      by_cases hltj : k < L.1.length
      · rcases HSp.out with h0 | ⟨b, o, rfl, hs, hc⟩
        · rw [h0] at hltj; simp at hltj
        have hcell := hc k hltj
        have HY := hid (HYes.out k hltj)
        have HN := hid (HNo.out k hltj)
        have hkl := HHl.out k
        have hbd := (HBd.out k hltj).2
        have hxb : 0 ≤ x + (k : Int) ∧ x + (k : Int) ≤ 200000 := by have := HTk.out; have := HLl.out; omega
        obtain ⟨hxb1, hxb2⟩ := hxb
        have HCa := hid (canB_all L.1 (b := L.1[k].2) (by omega))
        have HC := hid hc
        have HCn := hid (fun q hq => canB_snoc L.1 L.1[k].2 q hq)
        have hkl2 : (k : Int) < (L.1.length : Int) := by omega
        have HC2 := hid hcell.2
        clear hc hbd hcell
        generalize L.1[k].2 = hv at *
        obtain ⟨V1, rfl⟩ : ∃ V : World, V = wr := ⟨_, rfl⟩
        go_wp2_with fail
        go_loopw [12, 13] (fun cv i wr => ∃ q : Nat, q ≤ L.1.length ∧ i = .int .i64 q ∧ cv = .bool (canB L.1 hv q) ∧ Below V1.heap.size V1 wr) (fun _ i _ => L.1.length - (intOf i).toNat)
        case atStart => exact ⟨0, Nat.zero_le _, rfl, rfl, Below.refl _ _⟩
        case round =>
          obtain ⟨q, hq, rfl, rfl, hbq⟩ := hrel
          have hbb : Below W2.heap.size W2 wr := hbj.trans (hbq.mono (by omega))
          by_cases hltq : q < L.1.length
          · have y1 := (hbb.cell (p := ⟨b, o + k * 2 + 1, none⟩) hs).trans HC2.out
            have y0 := (hbb.cell (p := ⟨b, o + q * 2, none⟩) hs).trans (HC.out q hltq).1
            have HS := hid (HCn.out q hltq)
            have hql : (q : Int) < (L.1.length : Int) := by omega
            generalize L.1[q].1 = lq at *
            cases hcb : canB L.1 hv q
            · have HCb := hid hcb; clear hcb
              go_wp2_with fail
              go_quiet (fail)
              go_wp2_with fail
              refine ⟨⟨q + 1, by omega, by go_num, by rw [HS.out, HCb.out]; rfl, below_drewN hbq _⟩, by simp [intOf]; omega⟩
            · have HCb := hid hcb; clear hcb
              by_cases hle : lq ≤ hv
              · have hd : decide (lq ≤ hv) = true := by simp [hle]
                have HD := hid hd
                go_wp2_with fail
                go_quiet (fail)
                go_wp2_with fail
                refine ⟨⟨q + 1, by omega, by go_num, by rw [HS.out, HCb.out, HD.out]; rfl, below_drewN hbq _⟩, by simp [intOf]; omega⟩
              · have hd : decide (lq ≤ hv) = false := by simp; omega
                have HD := hid hd
                go_wp2_with fail
                go_quiet (fail)
                go_wp2_with fail
                refine ⟨⟨q + 1, by omega, by go_num, by rw [HS.out, HCb.out, HD.out]; rfl, below_drewN hbq _⟩, by simp [intOf]; omega⟩
          · obtain rfl : q = L.1.length := by omega
            have HOq := hid (ownsRow_below hown.out hbq)
            have hsq : W2.heap.size ≤ wr.heap.size := hbb.size
            cases hcb : canB L.1 hv L.1.length
            · have hN := HN.out (by
                have h1 := HCa.out.2
                rcases Int.lt_or_le hv (sureOf L.1) with h | h
                · exact h
                · have h2 := h1 h; rw [hcb] at h2; cases h2)
              have HN2 := hid hN; clear hN hcb
              go_wp2_with fail
              refine ⟨⟨k + 1, by omega, by go_num, hid (by rw [HN2.out]; exact HOq.out), hbb⟩, by simp [intOf]; omega⟩
            · have hY := HY.out (HCa.out.1 hcb)
              have HY2 := hid hY; clear hY hcb
              go_wp2_with (at_builtin; refine wpList_append_own _ rfl _ _ 25 rfl W2.heap.size 3 i0 (.int .i64 0) 1 8 Tryz.underlying25 hi hz0 hz1 hz2 rfl (by decide) _ _ _ rfl (HOq.out.alloc _) _ 1 1 [.int .i64 (x + (k : Int))] rfl rfl (by intro j u hj; match j, hj with | 0, hj => simp at hj; subst hj; simp [Addr.add, go_sem]) (by intro u hu; simp at hu; subst hu; rfl) (by unfold maxLen; omega) (by omega) (by simp; omega) ?_)
              intro v' w1 hown' hgrow _
              have BX : Below W2.heap.size W2 w1 := (hbb.alloc hsq _).trans (below_own (HOq.out.alloc _) (Nat.le_refl _) (by simp; omega) hgrow)
              have HO := hid (show w1.ownsRow W2.heap.size 3 1 v' (highK L.1 x (k + 1)).length (intVals (highK L.1 x (k + 1))) by rw [HY2.out, intVals_snoc, List.length_append]; exact hown')
              clear hown' hgrow hown
              go_wp2_with fail
              refine ⟨⟨k + 1, by omega, by go_num, HO, BX⟩, by simp [intOf]; omega⟩
      · obtain rfl : k = L.1.length := by omega
        obtain ⟨lh, lhc, hv, hip⟩ := intsAt_of_own hown.out
        subst hv
        have HIp := hid hip; clear hip hown
        go_wp2_with fail
        refine bodyPost_ret (v := .tuple #[.slice lh (highK L.1 x L.1.length).length lhc, .int .i64 0]) (by simp [results, Tryz.results6, go_sem, *]) rfl ?_
        have BL : Below w.heap.size w wr := BW.trans (hbj.mono (by omega))
        first
          | exact ⟨lh, lhc, by rw [HR.out], by rw [HR.out]; exact HIp.out, BL⟩
          | exact ⟨lh, ⟨lhc, by rw [HR.out]⟩, by rw [HR.out]; exact HIp.out, BL⟩
  · have hq' : (L.2 != 0) = true := by simp [hq]
    have HQ := hid hq; clear hq
    go_wp2_with fail
    refine bodyPost_ret (v := .tuple #[.slice none 0 0, .int .i64 L.2]) (by simp [results, Tryz.results6, go_sem, *]) rfl ⟨none, 0, ?_, .inl ?_, BW⟩
    · rw [HP.out, if_pos HQ.out]; rfl
    · rw [HP.out, if_pos HQ.out]

set_option maxHeartbeats 1000000 in
theorem rgcd_any (a b : Nat) (w : World) (ha : a ≤ 4611686018427387904) (hb : b ≤ 4611686018427387904) :
    Calls Tryz.prog 19 #[.int .i64 a, .int .i64 b] w fun e w' => e = .returned (.int .i64 (Nat.gcd a b : Nat)) ∧ Below w.heap.size w w' := by
  go_enter Tryz.func19, Tryz.ntmps19
  go_wp2_with fail
  go_loopw [0, 1] (fun x y wr => ∃ m n : Nat, x = .int .i64 m ∧ y = .int .i64 n ∧ m ≤ 4611686018427387904 ∧ n ≤ 4611686018427387904 ∧ Hid (Nat.gcd m n = Nat.gcd a b) ∧ Below w.heap.size w wr) (fun _ y _ => (intOf y).toNat)
  case atStart => exact ⟨a, b, rfl, rfl, ha, hb, hid rfl, Below.refl _ _⟩
  case round =>
    obtain ⟨m, n, rfl, rfl, hm, hn, hg, hbw⟩ := hrel
    by_cases h0 : n = 0
    · subst h0
      go_wp2_with fail
      go_ret
      exact ⟨by rw [← hg.out, Nat.gcd_zero_right]; rfl, hbw⟩
    · have h1 : (0 : Int) < (n : Int) := by omega
      have h1' : 0 < n := by omega
      have h2 : ¬ (n : Int) = 0 := by omega
      have hlt : m % n < n := Nat.mod_lt _ (by omega)
      have hq : ((m : Int) % (n : Int)) = ((m % n : Nat) : Int) := by norm_cast
      have hq2 : ((m : Int).tmod (n : Int)) = ((m % n : Nat) : Int) := by rw [Int.tmod_eq_emod_of_nonneg (by omega)]; exact hq
      have HGs := hid (gcd_step m n)
      generalize m % n = r at *
      go_wp2_with fail
      go_quiet (fail)
      go_wp2_with fail
      refine ⟨⟨n, r, rfl, by go_num, hn, by omega, hid (by rw [HGs.out]; exact hg.out), below_drewN hbw _⟩, by simp [intOf]; omega⟩
theorem rgcdVal (a b g : Nat) (w : World) (ha : a ≤ 4611686018427387904) (hb : b ≤ 4611686018427387904) (hg : Nat.gcd a b = g) :
    Calls Tryz.prog 19 #[.int .i64 a, .int .i64 b] w fun e w' => e = .returned (.int .i64 g) ∧ Below w.heap.size w w' := by
  rw [← hg]; exact rgcd_any a b w ha hb

set_option maxRecDepth 100000 in
set_option maxHeartbeats 4000000 in
theorem rperiod_any (mean : Int) (a : Option Addr) (cap : Nat) (cs : List Con) (w : World) (hok : ConsOk w a cap cs) :
    Calls Tryz.prog 9 #[.agg #[.int .i64 mean, .slice a cs.length cap]] w
      fun e w' => e = .returned (.tuple #[.int .i64 (periodP mean cs).1, .int .i64 (periodP mean cs).2]) ∧ Below w.heap.size w w' := by
  have HH := hid hok; clear hok
  have HP := hid (periodP_eq mean cs)
  go_enter Tryz.func9, Tryz.ntmps9
  go_wp2_with fail
  generalize hW1 : World.alloc w _ = W1
  have B1 : Below w.heap.size w W1 := by rw [← hW1]; exact (Below.refl _ _).alloc (Nat.le_refl _) _
  have S1 : w.heap.size < W1.heap.size := by rw [← hW1]; simp
  have b0 : W1.cell? ⟨w.heap.size, 0, none⟩ = some (.int .i64 mean) := by rw [← hW1]; simp [go_sem]
  have b1 : W1.cell? ⟨w.heap.size, 1, none⟩ = some (.slice a cs.length cap) := by rw [← hW1]; simp [go_sem]
  clear hW1
  refine (rcheck_any mean a cap cs _ (HH.out.later B1 (Nat.le_refl _))).mono ?_
  rintro e W2 ⟨rfl, B2⟩
  have hs2 := B2.size
  have c0 := (B2.cell (p := ⟨w.heap.size, 0, none⟩) (by simp; omega)).trans b0
  have c1 := (B2.cell (p := ⟨w.heap.size, 1, none⟩) (by simp; omega)).trans b1
  have BW : Below w.heap.size w W2 := B1.trans (B2.mono (by omega))
  clear b0 b1
  have HGd := hid (fun h => tabGood_of (mean := mean) (cs := cs) h)
  generalize checkP mean cs = q at *
  by_cases hq : q.2 = 0
  · have hq' : (q.2 != 0) = false := by simp [hq]
    have HQ := hid hq; clear hq
    have hGd := HGd.out HQ.out
    have HGood := hid hGd.2.2
    have hlen := hGd.2.1
    clear hGd HGd
    have HR := hid (show periodP mean cs = perL 1 cs by rw [HP.out]; simp [HQ.out])
    have C1 := hid c1; clear c0 c1
    go_wp2_with fail
    go_loopw [6, 7] (fun pv i wr => ∃ j p : Nat, j ≤ cs.length ∧ i = .int .i64 j ∧ pv = .int .i64 p ∧ 0 < p ∧ p ≤ 1000000000 ∧ Hid (periodP mean cs = perL p (cs.drop j)) ∧ Below W2.heap.size W2 wr) (fun _ i _ => cs.length - (intOf i).toNat)
    case atStart => exact ⟨0, 1, Nat.zero_le _, rfl, rfl, by omega, by omega, hid (by rw [HR.out]; rfl), Below.refl _ _⟩
    case round =>
      obtain ⟨j, p, hj, rfl, rfl, hp0, hp1, hrel, hbw⟩ := hrel
      have hbl : Below w.heap.size w wr := BW.trans (hbw.mono (by omega))
      have hsz := hbw.size
      have e1 := (hbw.cell (p := ⟨w.heap.size, 1, none⟩) (by simp; omega)).trans C1.out
      by_cases hlt : j < cs.length
      · rcases HH.out.at_ with h0 | ⟨b, o, rfl, hs, hcon⟩
        · subst h0; simp at hlt
        obtain ⟨hha, hhc, hca⟩ := hcon j hlt
        obtain ⟨c0, c1, c2, c3, c4, c5, _⟩ := hca.later hs hbl (Nat.le_refl _)
        have HD := hid (perL_drop p cs j hlt)
        have hgd := HGood.out cs[j] (List.getElem_mem _)
        have hcy := cyc_bd hgd
        have hob := ownP_bd hgd
        obtain ⟨g1, g2, gh, g3, g4, g5, g6, g7, g8, g9, g10⟩ := hgd
        clear gh hca hcon
        generalize cs[j] = c at *
        obtain ⟨C, hC⟩ : ∃ C : Nat, cyc c = C := ⟨(cyc c).toNat, by omega⟩
        obtain ⟨S, hS⟩ : ∃ S : Nat, c.step = S := ⟨c.step.toNat, by omega⟩
        have hCC : c.den * (c.hs.length : Int) = C := by rw [← hC]; rfl
        have hO : ownP c = C / Nat.gcd C S := by unfold ownP; rw [hC, hS]; rfl
        rw [hC] at hcy
        rw [hS] at g7 g8 c3
        obtain ⟨hcy1, hcy2⟩ := hcy
        obtain ⟨hob1, hob2⟩ := hob
        generalize hg : Nat.gcd C S = g at *
        have hgp : 0 < g := by rw [← hg]; exact Nat.gcd_pos_of_pos_left _ (by omega)
        generalize hoo : ownP c = O at *
        have hcomm := per_comm p O hp0
        generalize hg2 : Nat.gcd p O = gq at *
        have hg2p : 0 < gq := by rw [← hg2]; exact Nat.gcd_pos_of_pos_left _ hp0
        have hz1 : ¬ (g : Int) = 0 := by omega
        have hz2 : ¬ (gq : Int) = 0 := by omega
        have hd1 : (C : Int) / (g : Int) = (O : Int) := by rw [hO]; norm_cast
        have hd2 : (p : Int) / (gq : Int) = ((p / gq : Nat) : Int) := by norm_cast
        have hdp : 0 < O / gq := Nat.div_pos (by rw [← hg2]; exact Nat.gcd_le_right _ (by omega)) hg2p
        have hd3 : O / gq ≤ 48000 := Nat.le_trans (Nat.div_le_self _ _) hob2
        have hpd : p * (O / gq) ≤ 1000000000 * 48000 := Nat.mul_le_mul hp1 hd3
        have hep : 0 < p * (O / gq) := Nat.mul_pos hp0 hdp
        rw [← hcomm] at hpd hep
        have HCo := hid hcomm
        have hdb : p / gq ≤ 1000000000 := Nat.le_trans (Nat.div_le_self _ _) hp1
        generalize p / gq = d at *
        have hpd2 : ((d : Int) * (O : Int)) = ((d * O : Nat) : Int) := by norm_cast
        generalize hpe : d * O = e at *
        have HG1 := hid hg; have HG2 := hid hg2
        clear hg hg2 hC hS hO hoo hcomm hdp hd3 hpe
        go_wp2_with fail
        refine (rgcdVal _ _ _ _ (by omega) (by omega) HG1.out).mono ?_
        rintro r W3 ⟨rfl, B3⟩
        clear c0 c1 c2 c3 c4 c5 e1
        go_wp2_with fail
        refine (rgcdVal _ _ _ _ (by omega) (by omega) HG2.out).mono ?_
        rintro r W4 ⟨rfl, B4⟩
        have BX : Below W2.heap.size W2 W4 := (hbw.alloc hsz _).trans ((B3.mono (by simp; omega)).trans (B4.mono (by have := B3.size; simp at this; omega)))
        have BL : Below w.heap.size w W4 := BW.trans (BX.mono (by omega))
        clear B3 B4 hbw hbl
        by_cases hbig : 1000000000 < e
        · have hbig' : (1000000000 : Int) < (e : Int) := by omega
          have HBg := hid hbig; clear hbig
          go_wp2_with fail
          refine bodyPost_ret (v := .tuple #[.int .i64 0, .int .i64 3]) (by simp [results, Tryz.results9, go_sem, *]) rfl ⟨by rw [hrel.out, HD.out, ← HCo.out, if_pos HBg.out], BL⟩
        · have HBg := hid hbig
          have hle : (e : Int) ≤ 1000000000 := by omega
          clear hbig
          go_wp2_with fail
          refine ⟨⟨j + 1, e, by omega, by go_num, rfl, hep, by omega, hid (by rw [hrel.out, HD.out, ← HCo.out, if_neg HBg.out]), BX⟩, by simp [intOf]; omega⟩
      · obtain rfl : j = cs.length := by omega
        rw [List.drop_length] at hrel
        go_wp2_with fail
        refine bodyPost_ret (v := .tuple #[.int .i64 p, .int .i64 0]) (by simp [results, Tryz.results9, go_sem, *]) rfl ⟨by rw [hrel.out]; rfl, hbl⟩
  · have hq' : (q.2 != 0) = true := by simp [hq]
    have HQ := hid hq; clear hq
    go_wp2_with fail
    refine bodyPost_ret (v := .tuple #[.int .i64 0, .int .i64 q.2]) (by simp [results, Tryz.results9, go_sem, *]) rfl ⟨by rw [HP.out, if_pos HQ.out], BW⟩
end Go.Proofs.YtblneiegekdnjaaGreat
