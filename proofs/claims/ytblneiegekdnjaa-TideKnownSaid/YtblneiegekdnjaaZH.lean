/- Tide, part ZH: High. -/
import Derived.Test.YtblneiegekdnjaaZD
import Derived.Test.YtblneiegekdnjaaZM
import Derived.Lib.MinMax
set_option linter.all false
namespace Go.Proofs.Ytblneiegekdnjaa
open Go.RowKit

def highP (mean : Int) (cs : List Con) (x n : Int) : List Int × Int :=
  if (levelsP mean cs x n).2 ≠ 0 then ([], (levelsP mean cs x n).2) else (highK (levelsP mean cs x n).1 x (levelsP mean cs x n).1.length, 0)
theorem highP_eq (mean : Int) (cs : List Con) (x n : Int) : highP mean cs x n = if (levelsP mean cs x n).2 ≠ 0 then ([], (levelsP mean cs x n).2) else (highK (levelsP mean cs x n).1 x (levelsP mean cs x n).1.length, 0) := rfl
theorem levelsP_ok {mean : Int} {cs : List Con} {x n : Int} {L : List (Int × Int) × Int} (h : levelsP mean cs x n = L) (h0 : L.2 = 0) :
    (checkP mean cs).2 = 0 ∧ ∃ m : Nat, n = m ∧ m ≤ 400 ∧ ticksB x m = true ∧ L.1 = levelsL mean cs x m := by
  subst h
  unfold levelsP at h0 ⊢
  split at h0
  · rename_i h1; exact absurd h0 h1
  rename_i h1
  split at h0
  · rename_i h2; exact absurd h0 h2
  rename_i h2
  rw [if_neg h1, if_neg h2]
  obtain ⟨m, hm, h4, ht⟩ := someE_ok (Decidable.not_not.1 h2)
  refine ⟨Decidable.not_not.1 h1, m, hm, h4, ht, ?_⟩
  simp only [hm, Int.toNat_natCast]
theorem levelsL_bd {mean : Int} {cs : List Con} (hm : -20000 ≤ mean ∧ mean ≤ 20000) (hl : cs.length ≤ 12) (hg : ∀ c ∈ cs, ConGood c) (x : Int) (m : Nat) {L : List (Int × Int)} (hL : L = levelsL mean cs x m) :
    L.length = m ∧ ∀ k (hk : k < L.length), (-300000000 ≤ L[k].1 ∧ L[k].1 ≤ 300000000) ∧ (-300000000 ≤ L[k].2 ∧ L[k].2 ≤ 300000000) := by
  subst hL
  refine ⟨levelsL_len _ _ _ _, fun k hk => ?_⟩
  rw [levelsL_get]
  exact levelAt_half hg hl hm.1 hm.2 _
theorem highK_yes {L : List (Int × Int)} {x : Int} {k : Nat} (h : k < L.length) (hs : sureOf L ≤ L[k].2) : highK L x (k + 1) = highK L x k ++ [x + k] := by
  conv => lhs; unfold highK
  rw [show L.getD k (0, 0) = L[k] by simp [List.getD, h], if_pos hs]
theorem highK_no {L : List (Int × Int)} {x : Int} {k : Nat} (h : k < L.length) (hs : ¬ sureOf L ≤ L[k].2) : highK L x (k + 1) = highK L x k := by
  conv => lhs; unfold highK
  rw [show L.getD k (0, 0) = L[k] by simp [List.getD, h], if_neg hs, List.append_nil]
theorem intVals_snoc (l : List Int) (x : Int) : intVals (l ++ [x]) = intVals l ++ [.int .i64 x] := by simp [intVals]
theorem A.infoInt : (Try.prog.info? 3).map (fun i => (i.zero, i.size, i.bytes)) = some (some (.int .i64 0), 1, 8) := by kernel_rfl

set_option maxRecDepth 100000 in
set_option maxHeartbeats 4000000 in
theorem high_any (mean : Int) (a : Option Addr) (cap : Nat) (cs : List Con) (x n : Int) (w : World) (hok : ConsOk w a cap cs) :
    Calls Try.prog 41 #[.agg #[.int .i64 mean, .slice a cs.length cap], .int .i64 x, .int .i64 n] w
      fun e w' => ∃ la lc, e = .returned (.tuple #[.slice la (highP mean cs x n).1.length lc, .int .i64 (highP mean cs x n).2]) ∧ IntsAt w' la (highP mean cs x n).1 ∧ Below w.heap.size w w' := by
  have hlen := levelsP_len mean cs x n
  have hP := highP_eq mean cs x n
  obtain ⟨L, hL⟩ : ∃ L, levelsP mean cs x n = L := ⟨_, rfl⟩
  rw [hL] at hlen hP
  have HP := hid hP; have HH := hid hok; have HL := hid hL
  clear hok hL hP
  obtain ⟨i0, hi, hz0, hz1, hz2⟩ := info_parts A.infoInt
  go_enter Try.func41, Try.ntmps41
  go_wp2_with fail
  generalize hW1 : World.alloc w _ = W1
  have B1 : Below w.heap.size w W1 := by rw [← hW1]; exact (Below.refl _ _).alloc (Nat.le_refl _) _
  have S1 : w.heap.size < W1.heap.size := by rw [← hW1]; simp
  clear hW1
  refine (levelsVal mean a cap cs x n L _ (HH.out.later B1 (Nat.le_refl _)) HL.out).mono ?_
  rintro e W2 ⟨la, lc, rfl, hsp, B2⟩
  have BW : Below w.heap.size w W2 := B1.trans (B2.mono (by omega))
  have HSp := hid hsp; clear hsp B2
  have hsW := BW.size
  by_cases hq : L.2 = 0
  · have hq' : (L.2 != 0) = false := by simp [hq]
    obtain ⟨hck, m, rfl, hm4, htk, hLm⟩ := levelsP_ok HL.out hq
    have hgd := tabGood_of hck
    obtain ⟨hLl, hbd⟩ := levelsL_bd hgd.1 hgd.2.1 hgd.2.2 x m hLm
    have HTk := hid (ticksB_iff.1 htk)
    have HBd := hid hbd
    have HR := hid (show highP mean cs x m = (highK L.1 x L.1.length, 0) by rw [HP.out, if_neg (by simp [hq])])
    clear hq hck hgd hbd hLm htk
    go_wp2_with fail
    go_loopw [10, 12, 28] (fun sv _ i wr => ∃ k : Nat, k ≤ L.1.length ∧ i = .int .i64 k ∧ sv = .int .i64 (sureOf (L.1.take k)) ∧ Below W2.heap.size W2 wr) (fun _ _ i _ => L.1.length - (intOf i).toNat)
    case atStart => exact ⟨0, Nat.zero_le _, rfl, rfl, Below.refl _ _⟩
    case round =>
      obtain ⟨k, hk, rfl, rfl, hbw⟩ := hrel
      have hsz := hbw.size
      by_cases hlt : k < L.1.length
      · rcases HSp.out with h0 | ⟨b, o, rfl, hs, hc⟩
        · rw [h0] at hlt; simp at hlt
        have y0 := (hbw.cell (p := ⟨b, o + k * 2, none⟩) hs).trans (hc k hlt).1
        have y1 := (hbw.cell (p := ⟨b, o + k * 2 + 1, none⟩) hs).trans (hc k hlt).2
        have HSn := hid (sureOf_snoc L.1 k hlt)
        clear hc
        generalize L.1[k] = s at *
        generalize sureOf (List.take k L.1) = mx at *
        go_wp2_with fail
        refine ⟨⟨k + 1, by omega, by go_num, by rw [HSn.out], ?_⟩, by simp [intOf]; omega⟩
        exact hbw.alloc hsz _
      · obtain rfl : k = L.1.length := by omega
        rw [List.take_length]
        have HYes := hid (fun k h hs => highK_yes (L := L.1) (x := x) (k := k) h hs)
        have HNo := hid (fun k h hs => highK_no (L := L.1) (x := x) (k := k) h hs)
        have HHl := hid (highK_len L.1 x)
        generalize sureOf L.1 = su at *
        obtain ⟨V1, rfl⟩ : ∃ V : World, V = wr := ⟨_, rfl⟩
        go_wp2_with fail
        go_loopw [13, 14, 15, 39] (fun v _ _ i wr => ∃ k : Nat, k ≤ L.1.length ∧ i = .int .i64 k ∧ Hid (wr.ownsRow V1.heap.size 3 1 v (highK L.1 x k).length (intVals (highK L.1 x k))) ∧ Below V1.heap.size V1 wr) (fun _ _ _ i _ => L.1.length - (intOf i).toNat)
        case atStart => exact ⟨0, Nat.zero_le _, rfl, hid (World.ownsRow_nil _ _ _ _), Below.refl _ _⟩
        case round =>
          obtain ⟨k, hk, rfl, hown, hbj⟩ := hrel
          have hszj := hbj.size
          by_cases hltj : k < L.1.length
          · rcases HSp.out with h0 | ⟨b, o, rfl, hs, hc⟩
            · rw [h0] at hltj; simp at hltj
            have hbq : Below W2.heap.size W2 wr := hbw.trans (hbj.mono (by omega))
            have y0 := (hbq.cell (p := ⟨b, o + k * 2, none⟩) hs).trans (hc k hltj).1
            have y1 := (hbq.cell (p := ⟨b, o + k * 2 + 1, none⟩) hs).trans (hc k hltj).2
            have HY := hid (HYes.out k hltj)
            have HN := hid (HNo.out k hltj)
            have hkl := HHl.out k
            have hxb : 0 ≤ x + (k : Int) ∧ x + (k : Int) ≤ 200000 := by have := HTk.out; omega
            obtain ⟨hxb1, hxb2⟩ := hxb
            clear hc
            generalize L.1[k] = s at *
            by_cases hge : su ≤ s.2
            · have hY := HY.out hge
              have HY2 := hid hY; clear hY
              go_wp2_with (at_builtin; refine wpList_append_own _ rfl _ _ 52 rfl V1.heap.size 3 i0 (.int .i64 0) 1 8 Try.underlying52 hi hz0 hz1 hz2 rfl (by decide) _ _ _ rfl ((hown.out.alloc _).alloc _) ⟨wr.heap.size + 1, 0, none⟩ 1 1 [.int .i64 (x + (k : Int))] rfl rfl (by intro j u hj; match j, hj with | 0, hj => simp at hj; subst hj; simp [Addr.add, go_sem]) (by intro u hu; simp at hu; subst hu; rfl) (by unfold maxLen; omega) (by omega) (by simp; omega) ?_)
              intro v' w1 hown' hgrow _
              have BX : Below V1.heap.size V1 w1 := ((hbj.alloc hszj _).alloc (by simp; omega) _).trans (below_own ((hown.out.alloc _).alloc _) (Nat.le_refl _) (by simp; omega) hgrow)
              have HO := hid (show w1.ownsRow V1.heap.size 3 1 v' (highK L.1 x (k + 1)).length (intVals (highK L.1 x (k + 1))) by rw [HY2.out, intVals_snoc, List.length_append]; exact hown')
              clear hown' hgrow hown
              go_wp2_with fail
              refine ⟨⟨k + 1, by omega, by go_num, HO, BX⟩, by simp [intOf]; omega⟩
            · have hN := HN.out (by omega)
              have HN2 := hid hN; clear hN
              go_wp2_with fail
              refine ⟨⟨k + 1, by omega, by go_num, hid ?_, hbj.alloc hszj _⟩, by simp [intOf]; omega⟩
              rw [HN2.out]; exact hown.out.alloc _
          · obtain rfl : k = L.1.length := by omega
            obtain ⟨lh, lhc, hv, hip⟩ := intsAt_of_own hown.out
            subst hv
            have HIp := hid hip; clear hip hown
            go_wp2_with fail
            refine bodyPost_ret (v := .tuple #[.slice lh (highK L.1 x L.1.length).length lhc, .int .i64 0]) (by simp [results, Try.results41, go_sem, *]) rfl ⟨lh, lhc, ?_, ?_, ?_⟩
            · rw [HR.out]
            · rw [HR.out]; exact HIp.out
            · exact BW.trans ((hbw.mono (by omega)).trans (hbj.mono (by omega)))
  · have hq' : (L.2 != 0) = true := by simp [hq]
    have HQ := hid hq; clear hq
    go_wp2_with fail
    refine bodyPost_ret (v := .tuple #[.slice none 0 0, .int .i64 L.2]) (by simp [results, Try.results41, go_sem, *]) rfl ⟨none, 0, ?_, .inl ?_, BW⟩
    · rw [HP.out, if_pos HQ.out]; rfl
    · rw [HP.out, if_pos HQ.out]
theorem highVal (mean : Int) (a : Option Addr) (cap : Nat) (cs : List Con) (x n : Int) (H : List Int × Int) (w : World) (hok : ConsOk w a cap cs) (hH : highP mean cs x n = H) :
    Calls Try.prog 41 #[.agg #[.int .i64 mean, .slice a cs.length cap], .int .i64 x, .int .i64 n] w
      fun e w' => ∃ la lc, e = .returned (.tuple #[.slice la H.1.length lc, .int .i64 H.2]) ∧ IntsAt w' la H.1 ∧ Below w.heap.size w w' := by
  rw [← hH]; exact high_any mean a cap cs x n w hok
end Go.Proofs.Ytblneiegekdnjaa
