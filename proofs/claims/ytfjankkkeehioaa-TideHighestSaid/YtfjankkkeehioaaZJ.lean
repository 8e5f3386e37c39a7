/- Tide, part ZJ: TideHighest's walk. -/
import Derived.Test.YtfjankkkeehioaaZI
import Derived.Test.YtfjankkkeehioaaTSc
set_option linter.all false
namespace Go.Proofs.Ytfjankkkeehioaa
open Go.RowKit

def foundB (l : List Int) (t : Int) (i : Nat) : Bool := (l.take i).any fun y => y == t
theorem foundB_snoc (l : List Int) (t : Int) (i : Nat) (h : i < l.length) : foundB l t (i + 1) = (foundB l t i || (l[i] == t)) := by
  unfold foundB; rw [List.take_succ_eq_append_getElem h, List.any_append]; simp
theorem foundB_all {l : List Int} {t : Int} (h : t ∈ l) : foundB l t l.length = true := by
  unfold foundB; rw [List.take_length, List.any_eq_true]; exact ⟨t, h, by simp⟩
theorem atL_cell (L : List (Int × Int)) (sh : List Int) (k mo : Nat) (h : mo ≤ k) : (intVals (atL L sh (k + 1)))[mo]? = some (.int .i64 (atP L sh mo)) := by
  unfold intVals atL
  rw [List.getElem?_map, List.getElem?_map, List.getElem?_range (by omega)]; rfl
theorem highP_ok {mean : Int} {cs : List Con} {x n : Int} {L : List (Int × Int) × Int} {H : List Int × Int} (hL : levelsP mean cs x n = L) (hH : highP mean cs x n = H) : (L.2 ≠ 0 → H = ([], L.2)) ∧ (L.2 = 0 → H = (highK L.1 x L.1.length, 0)) := by
  rw [← hH, highP_eq, hL]
  exact ⟨fun h => by rw [if_pos h], fun h => by rw [if_neg (by simp [h])]⟩

set_option maxRecDepth 100000 in
set_option maxHeartbeats 16000000 in
theorem highest_any (mean : Int) (a : Option Addr) (cap : Nat) (cs : List Con) (x0 x1 : Int) (sa : Option Addr) (sh : List Int) (sc : Nat) (w : World) (hok : ConsOk w a cap cs)
    (hsl : sh.length ≤ 140737488355328) (hsb : ∀ s ∈ sh, 0 ≤ s ∧ s ≤ 255) (hsa : KindsAt w .u8 sa sh) :
    Calls Try.prog 11 #[.agg #[.int .i64 mean, .slice a cs.length cap], .agg #[.int .i64 x0, .int .i64 x1], .slice sa sh.length sc] w
      fun e w' => e = .returned (.bool true) ∧ Below w.heap.size w w' := by
  have hlen := levelsP_len mean cs x0 x1
  obtain ⟨L, hL⟩ : ∃ L, levelsP mean cs x0 x1 = L := ⟨_, rfl⟩
  obtain ⟨H, hH⟩ : ∃ H, highP mean cs x0 x1 = H := ⟨_, rfl⟩
  have hLH := highP_ok hL hH
  rw [hL] at hlen
  have HLH := hid hLH
  have HH := hid hok; have HL := hid hL; have HHi := hid hH; have HSb := hid hsb; have HSa := hid hsa
  clear hok hL hH hLH hsb hsa
  obtain ⟨i0, hi, hz0, hz1, hz2⟩ := info_parts A.infoInt
  go_enter Try.func11, Try.ntmps11
  go_wp2_with fail
  generalize hW1 : World.alloc (World.alloc w _) _ = W1
  have B1 : Below w.heap.size w W1 := by rw [← hW1]; exact ((Below.refl _ _).alloc (Nat.le_refl _) _).alloc (by simp) _
  have S1 : w.heap.size + 1 < W1.heap.size := by rw [← hW1]; simp
  have m0 : W1.cell? ⟨w.heap.size, 0, none⟩ = some (.int .i64 mean) := by rw [← hW1]; simp [go_sem]
  have m1 : W1.cell? ⟨w.heap.size, 1, none⟩ = some (.slice a cs.length cap) := by rw [← hW1]; simp [go_sem]
  have v0 : W1.cell? ⟨w.heap.size + 1, 0, none⟩ = some (.int .i64 x0) := by rw [← hW1]; simp [go_sem]
  have v1 : W1.cell? ⟨w.heap.size + 1, 1, none⟩ = some (.int .i64 x1) := by rw [← hW1]; simp [go_sem]
  clear hW1
  go_quiet (fail)
  generalize hV : W1.drewN _ = V
  have BV : Below w.heap.size w V := by rw [← hV]; exact below_drewN B1 _
  have sV : V.heap.size = W1.heap.size := by rw [← hV]; simp
  have M0 := hid (show V.cell? ⟨w.heap.size, 0, none⟩ = some (.int .i64 mean) by rw [← hV]; exact m0)
  have M1 := hid (show V.cell? ⟨w.heap.size, 1, none⟩ = some (.slice a cs.length cap) by rw [← hV]; exact m1)
  have SV : w.heap.size < V.heap.size := by omega
  clear hV m0 m1 v0 v1 B1 S1 sV
  have c0 := M0.out; have c1 := M1.out
  by_cases hn : 100 < x1
  · go_wp2_with fail
    refine (awake_any _).mono ?_
    rintro e W2 ⟨rfl, B2⟩
    go_wp2_with fail
    go_ret
    exact ⟨rfl, BV.trans (B2.mono (by omega))⟩
  have hn' : x1 ≤ 100 := by omega
  clear hn
  go_wp2_with fail
  refine (highVal mean a cap cs x0 x1 H _ (HH.out.later BV (Nat.le_refl _)) HHi.out).mono ?_
  rintro e W2 ⟨ah, ch, rfl, hih, B2⟩
  have BW2 : Below w.heap.size w W2 := BV.trans (B2.mono (by omega))
  have G2 : Below V.heap.size V W2 := B2
  have HIh := hid hih
  clear B2 hih c0 c1
  have c0 := (G2.cell (p := ⟨w.heap.size, 0, none⟩) SV).trans M0.out
  have c1 := (G2.cell (p := ⟨w.heap.size, 1, none⟩) SV).trans M1.out
  go_wp2_with fail
  refine (levelsVal mean a cap cs x0 x1 L _ (HH.out.later BW2 (Nat.le_refl _)) HL.out).mono ?_
  rintro e W3 ⟨la, lc, rfl, hsp, B3⟩
  have BW3 : Below w.heap.size w W3 := BW2.trans (B3.mono BW2.size)
  have HIh3 := hid (HIh.out.later B3 (Nat.le_refl _))
  have HSp := hid hsp
  have HSa3 := hid (HSa.out.later BW3 (Nat.le_refl _))
  clear B3 hsp G2 BW2 HIh c0 c1
  by_cases hq : L.2 = 0
  · have hHe := HLH.out.2 hq
    obtain ⟨hck, m, rfl, hm4, htk, hLm⟩ := levelsP_ok HL.out hq
    have hgd := tabGood_of hck
    obtain ⟨hLl, hbd⟩ := levelsL_bd hgd.1 hgd.2.1 hgd.2.2 x0 m hLm
    have HTk := hid (ticksB_iff.1 htk)
    have HBd := hid (show ∀ k (hk : k < L.1.length), (-300000000 ≤ L.1[k].1 ∧ L.1[k].1 ≤ L.1[k].2 ∧ L.1[k].2 ≤ 300000000) from fun k hk => by
      have h1 := hbd k hk
      have h2 : L.1[k].1 ≤ L.1[k].2 := by
        have e : L.1[k] = levelAt mean cs (x0 + k) := by simp only [hLm, levelsL_get]
        rw [e]; exact levelAt_le hgd.2.2 _
      omega)
    have hqf : (L.2 != 0) = false := by simp [hq]
    have hqt : (L.2 == 0) = true := by simp [hq]
    rw [hHe] at HIh3 ⊢
    simp only [hq] at HIh3 ⊢
    clear hck hgd hLm htk hbd hq hHe hqf hqt HLH
    by_cases h0 : L.1.length = 0
    · have hk0 : (highK L.1 x0 0).length = 0 := rfl
      rw [h0, hk0]
      clear hLl hk0 h0
      go_wp2_with fail
      refine (awake_any _).mono ?_
      rintro e W4 ⟨rfl, B4⟩
      go_wp2_with fail
      go_ret
      exact ⟨rfl, BW3.trans (B4.mono BW3.size)⟩
    · have hpos : 0 < L.1.length := by omega
      have hl0 : ((L.1.length : Int) == 0) = false := by rw [beq_eq_false_iff_ne]; omega
      have HMo := hid (most_high (x := x0) (sh := sh) hpos (fun i hi => by have := HBd.out i hi; omega) HSb.out)
      obtain ⟨K, hK⟩ : ∃ K, highK L.1 x0 L.1.length = K := ⟨_, rfl⟩
      have hkl := highK_len L.1 x0 L.1.length
      have HK := hid (show ∀ i (hi : i < K.length), ∃ k : Nat, K[i] = x0 + (k : Int) ∧ k < L.1.length ∧ sureOf L.1 ≤ (L.1.getD k (0, 0)).2 by subst hK; exact fun i hi => high_at hi)
      have HAs := hid (show ∀ i (hi : i + 1 < K.length), K[i] < K[i + 1] by subst hK; exact fun i hi => high_asc hi)
      rw [hK] at HIh3 hkl HMo ⊢
      clear hK
      have HMl := hid (mostOf_lt (atP L.1 sh) L.1.length hpos)
      have HLl := hid hLl
      clear h0 hLl
      go_wp2_with fail
      go_loopw [13, 14, 15] (fun v mo i wr => ∃ k : Nat, k ≤ L.1.length ∧ i = .int .i64 k ∧ mo = .int .i64 (mostOf (atP L.1 sh) k : Nat) ∧ Hid (wr.ownsRow W3.heap.size 3 1 v k (intVals (atL L.1 sh k))) ∧ Below W3.heap.size W3 wr) (fun _ _ i _ => L.1.length - (intOf i).toNat)
      case atStart => exact ⟨0, Nat.zero_le _, rfl, rfl, hid (World.ownsRow_nil _ _ _ _), Below.refl _ _⟩
      case round =>
        obtain ⟨k, hk, rfl, rfl, hown, hbw⟩ := hrel
        have hsz := hbw.size
        by_cases hlt : k < L.1.length
        · rcases HSp.out with h0 | ⟨b, o, rfl, hs, hc⟩
          · rw [h0] at hlt; simp at hlt
          have y0 := (hbw.cell (p := ⟨b, o + k * 2, none⟩) hs).trans (hc k hlt).1
          have y1 := (hbw.cell (p := ⟨b, o + k * 2 + 1, none⟩) hs).trans (hc k hlt).2
          have hbd := HBd.out k hlt
          have HY := hid (fun h => atP_yes (L := L.1) (sh := sh) (i := k) hlt h)
          have HN := hid (fun h => atP_no (L := L.1) (sh := sh) (i := k) hlt h)
          have HSn := hid (atL_snoc L.1 sh k)
          have HMn := hid (show mostOf (atP L.1 sh) (k + 1) = if atP L.1 sh (mostOf (atP L.1 sh) k) < atP L.1 sh k then k else mostOf (atP L.1 sh) k from rfl)
          have HMk := hid (atL_get L.1 sh (k + 1) (mostOf (atP L.1 sh) k))
          have hmk := mostOf_le (atP L.1 sh) k
          clear hc
          generalize L.1[k] = s at *
          generalize mostOf (atP L.1 sh) k = mo at *
          obtain ⟨hb1, hb2, hb3⟩ := hbd
          have klt : (k : Int) < (L.1.length : Int) := by omega
          by_cases hsx : k < sh.length
          focus
            rcases HSa3.out with h0 | ⟨bs, os, rfl, hss, hcs⟩
            · rw [h0] at hsx; simp at hsx
            have z0 := (hbw.cell (p := ⟨bs, os + k, none⟩) hss).trans (hcs k hsx)
            have HAv := hid (HY.out hsx)
            obtain ⟨sb0, sb1⟩ := HSb.out sh[k] (List.getElem_mem _)
            generalize sh[k] = q at *
            have hq1 : 0 ≤ (s.2 - s.1) * q := Int.mul_nonneg (by omega) sb0
            have hq2 : (s.2 - s.1) * q ≤ 600000000 * 255 := Int.mul_le_mul (by omega) sb1 sb0 (by omega)
            have hsx' : (k : Int) < (sh.length : Int) := by omega
            clear hcs
            go_wp2_with fail
            go_quiet (fail)
            generalize s.1 + (s.2 - s.1) * q / 255 = av at *
            generalize hV2 : wr.drewN _ = V2
            have BX0 : Below W3.heap.size W3 V2 := by rw [← hV2]; exact below_drewN hbw _
            have HO2 := hid (show V2.ownsRow W3.heap.size 3 1 u13 k (intVals (atL L.1 sh k)) by rw [← hV2]; exact ownsRow_below hown.out (below_drewN (Below.refl wr.heap.size wr) _))
            have sX : W3.heap.size ≤ V2.heap.size := BX0.size
            clear hV2
            clear z0 hq1 hq2
          rotate_left
          focus
            have HAv := hid (HN.out (by omega))
            have BX0 := hbw
            have HO2 := hid hown.out
            have sX := hsz
            have hsx' : (sh.length : Int) ≤ (k : Int) := by omega
            generalize s.1 = av at *
          all_goals
            go_wp2_with (at_builtin; refine wpList_append_own _ rfl _ _ 52 rfl W3.heap.size 3 i0 (.int .i64 0) 1 8 Try.underlying52 hi hz0 hz1 hz2 rfl (by decide) _ _ _ rfl (HO2.out.alloc _) _ 1 1 [.int .i64 av] rfl rfl (by intro j u hj; match j, hj with | 0, hj => simp at hj; subst hj; simp [Addr.add, go_sem]) (by intro u hu; simp at hu; subst hu; rfl) (by unfold maxLen; omega) (by omega) (by simp; omega) ?_)
            intro v' w1 hown' hgrow _
            have BX : Below W3.heap.size W3 w1 := (BX0.alloc sX _).trans (below_own (HO2.out.alloc _) (Nat.le_refl _) (by simp; omega) hgrow)
            have HO := hid (show w1.ownsRow W3.heap.size 3 1 v' (k + 1) (intVals (atL L.1 sh (k + 1))) by rw [HSn.out, intVals_snoc, HAv.out]; exact hown')
            obtain ⟨g, cp, hv'⟩ : ∃ g cp, v' = .slice (some ⟨g, 0, none⟩) (k + 1) cp := by
              rcases HO.out.2 with ⟨_, h⟩ | ⟨g, cp, _, h, _⟩
              · omega
              · exact ⟨g, cp, h⟩
            subst hv'
            have cm := HO.out.cells (g := g) rfl mo (.int .i64 (atP L.1 sh mo)) (atL_cell L.1 sh k mo hmk)
            rw [addr_add0] at cm
            have hmk' : (mo : Int) < (k : Int) + 1 := by omega
            generalize atP L.1 sh mo = fm at *
            clear hown' hgrow hown HO2 BX0 sX
            by_cases hgt : fm < av
            · have HM2 := hid (show mostOf (atP L.1 sh) (k + 1) = k by rw [HMn.out, HAv.out, if_pos hgt])
              go_wp2_with fail
              refine ⟨⟨k + 1, by omega, by go_num, by rw [HM2.out], HO, BX⟩, by simp [intOf]; omega⟩
            · have HM2 := hid (show mostOf (atP L.1 sh) (k + 1) = mo by rw [HMn.out, HAv.out, if_neg hgt])
              have hgt' : av ≤ fm := by omega
              clear hgt
              go_wp2_with fail
              refine ⟨⟨k + 1, by omega, by go_num, by rw [HM2.out], HO, BX⟩, by simp [intOf]; omega⟩
        · obtain rfl : k = L.1.length := by omega
          have hmol := HMl.out
          generalize mostOf (atP L.1 sh) L.1.length = mo at *
          clear hown
          go_wp2_with fail
          go_loopw [17, 18] (fun fv i wr => ∃ j : Nat, j ≤ K.length ∧ i = .int .i64 j ∧ fv = .bool (foundB K (x0 + (mo : Nat)) j) ∧ Below W3.heap.size W3 wr) (fun _ i _ => K.length - (intOf i).toNat)
          case atStart => exact ⟨0, Nat.zero_le _, rfl, rfl, hbw⟩
          case round =>
            obtain ⟨j, hj, rfl, rfl, hbj⟩ := hrel
            have hszj := hbj.size
            by_cases hltj : j < K.length
            · rcases HIh3.out with h0 | ⟨bk, ok, rfl, hsk, hck⟩
              · rw [h0] at hltj; simp at hltj
              rcases HSp.out with h0 | ⟨b, o, rfl, hs, hc⟩
              · rw [h0] at hpos; simp at hpos
              have y := (hbj.cell (p := ⟨bk, ok + j, none⟩) hsk).trans (hck j hltj)
              obtain ⟨k, hk1, hk2, hk3⟩ := HK.out j hltj
              have HFs := hid (foundB_snoc K (x0 + (mo : Nat)) j hltj)
              have hx := HTk.out
              have hx0 : 0 ≤ x0 ∧ x0 ≤ 200000 ∧ x0 + (k : Int) ≤ 200000 := by have := HLl.out; omega
              obtain ⟨hx01, hx02, hx03⟩ := hx0
              have hsure := (sureOf_le L.1 (b := (L.1.getD k (0, 0)).2) (by have := HBd.out k hk2; rw [show L.1.getD k (0, 0) = L.1[k] by simp [List.getD, hk2]]; omega)).1 hk3
              rw [show L.1.getD k (0, 0) = L.1[k] by simp [List.getD, hk2]] at hsure
              have HSu := hid (show ∀ q (hq : q < L.1.length), L.1[q].1 ≤ L.1[k].2 from fun q hq => by have := List.all_eq_true.1 hsure _ (List.getElem_mem hq); simpa using this)
              have HCk := hid hck; have HCs := hid hc
              clear hsure hk3 hx hck hc
              have hkl2 : (k : Int) < (L.1.length : Int) := by omega
              have HHv := hid hk1
              have w1 : decide ((k : Int) < 0) = false := by simp
              have w2 : decide ((L.1.length : Int) ≤ (k : Int)) = false := by simp; omega
              have w3 : decide (L.1.length ≤ k) = false := by simp; omega
              by_cases hj0 : j = 0
              focus
                have hj3 : decide (0 < j) = false := by simp; omega
                clear hj0
                generalize K[j] = hv at *
                have hd : hv - x0 = (k : Int) := by omega
                have hv1 : 0 ≤ hv := by omega
                have hv2 : hv ≤ 200000 := by omega
                clear hk1
                go_wp2_with fail
                go_quiet (fail)
              rotate_left
              focus
                obtain ⟨j', hjj⟩ : ∃ j', j = j' + 1 := ⟨j - 1, by omega⟩
                have hasc : K[j']'(by omega) < K[j] := by subst hjj; exact HAs.out j' hltj
                have y' := (hbj.cell (p := ⟨bk, ok + j', none⟩) hsk).trans (HCk.out j' (by omega))
                have hj1 : (j : Int) - 1 = (j' : Int) := by omega
                have hj2 : (j' : Int) < (K.length : Int) := by omega
                have hj3 : decide (0 < j) = true := by simp; omega
                generalize K[j] = hv at *
                generalize K[j'] = pv at *
                have hd : hv - x0 = (k : Int) := by omega
                have hv1 : 0 ≤ hv := by omega
                have hv2 : hv ≤ 200000 := by omega
                have hj4 : decide (hv ≤ pv) = false := by simp; omega
                clear hk1 hjj hj0
                go_wp2_with fail
                go_quiet (fail)
              all_goals
                generalize hV4 : wr.drewN _ = V4
                have B4 : Below W3.heap.size W3 V4 := by rw [← hV4]; exact below_drewN hbj _
                have HSk := hid (HSu.out)
                clear hV4 y w1 w2 w3 hj3 hd
                have hways : foundB K (x0 + (mo : Int)) j = true ∨ (foundB K (x0 + (mo : Int)) j = false ∧ k = mo) ∨ (foundB K (x0 + (mo : Int)) j = false ∧ k ≠ mo) := by
                  cases foundB K (x0 + (mo : Int)) j
                  · by_cases h : k = mo
                    · exact .inr (.inl ⟨rfl, h⟩)
                    · exact .inr (.inr ⟨rfl, h⟩)
                  · exact .inl rfl
                have hways2 : ∃ f1 f2 : Bool, foundB K (x0 + (mo : Int)) j = f1 ∧ ((k : Int) == (mo : Int)) = f2 ∧ foundB K (x0 + (mo : Int)) (j + 1) = (f1 || f2) ∧ (f1 = true ∨ f1 = false ∧ f2 = true ∨ f1 = false ∧ f2 = false) := by
                  refine ⟨_, _, rfl, rfl, ?_, ?_⟩
                  · rw [HFs.out, HHv.out]
                    congr 1
                    by_cases h : k = mo
                    · simp [h]
                    · rw [beq_eq_false_iff_ne.2 (by omega), beq_eq_false_iff_ne.2 (by omega)]
                  · cases foundB K (x0 + (mo : Int)) j <;> cases ((k : Int) == (mo : Int)) <;> simp
                obtain ⟨f1, f2, hf1, hf2, hf3, hf4⟩ := hways2
                rw [hf1]
                have HF3 := hid hf3
                clear hways hf3 hf1
                rcases hf4 with rfl | ⟨rfl, rfl⟩ | ⟨rfl, rfl⟩
                all_goals
                  go_wp2_with fail
                  go_loopw [20] (fun jv wq => ∃ q : Nat, q ≤ L.1.length ∧ jv = .int .i64 q ∧ Below W3.heap.size W3 wq) (fun jv _ => L.1.length - (intOf jv).toNat)
                  case atStart => exact ⟨0, Nat.zero_le _, rfl, B4⟩
                  case round =>
                    obtain ⟨q, hq, rfl, hbq⟩ := hrel
                    by_cases hltq : q < L.1.length
                    · have z1 := (hbq.cell (p := ⟨b, o + q * 2, none⟩) hs).trans (HCs.out q hltq).1
                      have z2 := (hbq.cell (p := ⟨b, o + k * 2 + 1, none⟩) hs).trans (HCs.out k hk2).2
                      have hle := HSk.out q hltq
                      have hql : (q : Int) < (L.1.length : Int) := by omega
                      generalize L.1[q].1 = lq at *
                      generalize L.1[k].2 = lk2 at *
                      go_wp2_with fail
                      go_quiet (fail)
                      go_wp2_with fail
                      refine ⟨⟨q + 1, by omega, by go_num, below_drewN hbq _⟩, by simp [intOf]; omega⟩
                    · obtain rfl : q = L.1.length := by omega
                      go_wp2_with fail
                      refine ⟨⟨j + 1, by omega, by go_num, by rw [HF3.out]; rfl, hbq⟩, by simp [intOf]; omega⟩
            · obtain rfl : j = K.length := by omega
              rw [foundB_all HMo.out]
              go_wp2_with fail
              refine (awake_any _).mono ?_
              rintro e W4 ⟨rfl, B4⟩
              go_wp2_with fail
              go_ret
              exact ⟨rfl, (BW3.trans (hbj.mono BW3.size)).trans (B4.mono (Nat.le_trans BW3.size hszj))⟩
  · have hHe := HLH.out.1 hq
    have hqf : (L.2 != 0) = true := by simp [hq]
    rw [hHe] at HIh3 ⊢
    clear hq hHe
    go_wp2_with fail
    refine (awake_any _).mono ?_
    rintro e W4 ⟨rfl, B4⟩
    go_wp2_with fail
    go_ret
    exact ⟨rfl, BW3.trans (B4.mono BW3.size)⟩
end Go.Proofs.Ytfjankkkeehioaa
