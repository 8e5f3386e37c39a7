/- Base, part UC: the document's own names (package barrageref01). -/
import Derived.Test.YtdoklolinbmhpaaGreatUB
set_option linter.all false
namespace Go.Proofs.YtdoklolinbmhpaaGreat
open Go.RowKit

theorem rin_any (x lo hi : Int) (w : World) :
    Calls Tryz.prog 103 #[.int .i64 x, .int .i64 lo, .int .i64 hi] w fun e w' => e = .returned (.bool (inB x lo hi)) ∧ w = w' := by
  by_cases h1 : lo ≤ x <;> by_cases h2 : x ≤ hi
  all_goals
    have h : inB x lo hi = decide (lo ≤ x ∧ x ≤ hi) := rfl
    simp only [h1, h2, and_self, and_true, and_false, decide_true, decide_false] at h
    have H := hid h; clear h
    go_enter Tryz.func103, Tryz.ntmps103
    go_wp2
    go_ret
    exact ⟨by rw [H.out]; simp [*], rfl⟩

set_option maxRecDepth 20000 in
set_option maxHeartbeats 400000 in
theorem rname_any (s : ByteArray) (w : World) (hs : s.size ≤ maxLen) :
    Calls Tryz.prog 63 #[.string s] w fun e w' => e = .returned (.bool (nameB s.data.toList)) ∧ w = w' := by
  unfold maxLen at hs
  cases hi : inB s.size 1 24
  · have hn : nameB s.data.toList = false := by
      cases h : nameB s.data.toList
      · rfl
      · have := nameB_len h; rw [inB_no] at hi; simp at this; omega
    have HN := hid hn; clear hn
    go_enter Tryz.func63, Tryz.ntmps63
    go_wp2_with (go_at_call 103; refine (rin_any _ _ _ _).mono ?_; rintro e w' ⟨rfl, rfl⟩)
    go_ret
    exact ⟨ret_bool (a := false) (by rw [HN.out]), rfl⟩
  have hb := inB_iff.1 hi
  have hp : 0 < s.size := by omega
  have h24 : s.size ≤ 24 := by omega
  clear hb
  have hO := nameB_of (l := s.data.toList) (by simpa using hp)
  rw [str_get s 0 hp] at hO
  simp only [str_len] at hO
  rw [decide_eq_true (by omega)] at hO
  have HO := hid hO; clear hO
  go_enter Tryz.func63, Tryz.ntmps63
  go_wp2_with (go_at_call 103; refine (rin_any _ _ _ _).mono ?_; rintro e w' ⟨rfl, rfl⟩)
  go_loop [3, 4, 5] (fun i _ _ => ∃ k : Nat, k ≤ s.size ∧ i = .int .i64 k ∧ Hid ((s.data.toList.take k).all restB = true) ∧ Hid (0 < k → letB s[0] = true)) (fun i _ _ => s.size - (intOf i).toNat)
  case atStart => exact ⟨0, Nat.zero_le _, rfl, hid (by simp), hid (by simp)⟩
  case round =>
    obtain ⟨k, hk, rfl, hf, hf0⟩ := hrel
    by_cases hlt : k < s.size
    · have hT := all_take_succ s.data.toList k (by simpa using hlt) restB
      rw [str_get s k hlt, hf.out, Bool.true_and] at hT
      have HT := hid hT; clear hT hf
      have HA := hid (fun (h : restB s[k] = false) => show s.data.toList.all restB = false by
        rw [List.all_eq_false]; exact ⟨s[k], by rw [← str_get s k hlt]; exact List.getElem_mem _, by simp [h]⟩)
      have HR := hid (show restB s[k] = true ↔ (97 ≤ (s[k].toNat : Int) ∧ (s[k].toNat : Int) ≤ 122) ∨ (48 ≤ (s[k].toNat : Int) ∧ (s[k].toNat : Int) ≤ 57) ∨ (s[k].toNat : Int) = 45 by simp [restB, letB, digB, or_assoc])
      have HG := hid (fun (h : restB s[k] = true) (h0 : k = 0 → letB s[k] = true) => show ((s.data.toList.take (k + 1)).all restB = true) ∧ (0 < k + 1 → letB s[0] = true) from
        ⟨HT.out.trans h, fun _ => by
          by_cases hk0 : k = 0
          · subst hk0; exact h0 rfl
          · exact hf0.out (by omega)⟩)
      have HL := hid (show letB s[k] = true ↔ (97 ≤ (s[k].toNat : Int) ∧ (s[k].toNat : Int) ≤ 122) by simp [letB])
      have HNo := hid (fun (h : restB s[k] = false) => show nameB s.data.toList = false by rw [HO.out, HA.out h]; simp)
      have HNo0 := hid (fun (h : letB s[k] = false) (h0 : k = 0) => show nameB s.data.toList = false by subst h0; rw [HO.out, h]; simp)
      have hcb : (s[k].toNat : Int) < 256 := by have := s[k].toNat_lt; omega
      have hcb0 : 0 ≤ (s[k].toNat : Int) := by omega
      clear HT HA hf0
      by_cases g1 : 97 ≤ (s[k].toNat : Int)
      · by_cases g2 : (s[k].toNat : Int) ≤ 122
        · have HG' := hid (HG.out (HR.out.2 (by omega)) (fun h => HL.out.2 (by omega)))
          go_wp2_with fail
          go_round
          case rel => exact ⟨k + 1, by omega, by go_num, hid HG'.out.1, hid HG'.out.2⟩
          case measure => simp [intOf]; omega
        · skip
          by_cases hk0 : (k : Int) = 0
          · have hk0' : ((k : Int) == 0) = true := by rw [beq_iff_eq]; exact hk0
            have HF := hid (HNo0.out (by rw [Bool.eq_false_iff]; exact fun h => absurd (HL.out.1 h) (by omega)) (by omega))
            obtain rfl : k = 0 := by omega
            clear hk0 hk0'
            go_wp2_with fail
            go_ret
            exact ⟨ret_bool (a := false) (HF.out).symm, rfl⟩
          · have hk0' : ((k : Int) == 0) = false := by rw [beq_eq_false_iff_ne]; exact hk0
            have hk1 : 0 < k := by omega
            have HK0 := hid hk0; clear hk0
            by_cases h45 : (s[k].toNat : Int) = 45
            · have h45' : ((s[k].toNat : Int) != 45) = false := by rw [h45]; rfl
              have HG' := hid (HG.out (HR.out.2 (by omega)) (fun h => by omega))
              have H45 := hid h45; clear h45
              go_wp2_with fail
              go_round
              case rel => exact ⟨k + 1, by omega, by go_num, hid HG'.out.1, hid HG'.out.2⟩
              case measure => simp [intOf]; omega
            · have h45' : ((s[k].toNat : Int) != 45) = true := by rw [bne_iff_ne]; exact h45
              by_cases g3 : (s[k].toNat : Int) < 48
              · have HF := hid (HNo.out (by rw [Bool.eq_false_iff]; exact fun h => absurd (HR.out.1 h) (by omega)))
                clear h45
                go_wp2_with fail
                go_ret
                exact ⟨ret_bool (a := false) (HF.out).symm, rfl⟩
              · by_cases g4 : 57 < (s[k].toNat : Int)
                · have HF := hid (HNo.out (by rw [Bool.eq_false_iff]; exact fun h => absurd (HR.out.1 h) (by omega)))
                  clear h45
                  go_wp2_with fail
                  go_ret
                  exact ⟨ret_bool (a := false) (HF.out).symm, rfl⟩
                · have HG' := hid (HG.out (HR.out.2 (by omega)) (fun h => by omega))
                  clear h45
                  go_wp2_with fail
                  go_round
                  case rel => exact ⟨k + 1, by omega, by go_num, hid HG'.out.1, hid HG'.out.2⟩
                  case measure => simp [intOf]; omega
      · skip
        by_cases hk0 : (k : Int) = 0
        · have hk0' : ((k : Int) == 0) = true := by rw [beq_iff_eq]; exact hk0
          have HF := hid (HNo0.out (by rw [Bool.eq_false_iff]; exact fun h => absurd (HL.out.1 h) (by omega)) (by omega))
          obtain rfl : k = 0 := by omega
          clear hk0 hk0'
          go_wp2_with fail
          go_ret
          exact ⟨ret_bool (a := false) (HF.out).symm, rfl⟩
        · have hk0' : ((k : Int) == 0) = false := by rw [beq_eq_false_iff_ne]; exact hk0
          have hk1 : 0 < k := by omega
          have HK0 := hid hk0; clear hk0
          by_cases h45 : (s[k].toNat : Int) = 45
          · have h45' : ((s[k].toNat : Int) != 45) = false := by rw [h45]; rfl
            have HG' := hid (HG.out (HR.out.2 (by omega)) (fun h => by omega))
            have H45 := hid h45; clear h45
            go_wp2_with fail
            go_round
            case rel => exact ⟨k + 1, by omega, by go_num, hid HG'.out.1, hid HG'.out.2⟩
            case measure => simp [intOf]; omega
          · have h45' : ((s[k].toNat : Int) != 45) = true := by rw [bne_iff_ne]; exact h45
            by_cases g3 : (s[k].toNat : Int) < 48
            · have HF := hid (HNo.out (by rw [Bool.eq_false_iff]; exact fun h => absurd (HR.out.1 h) (by omega)))
              clear h45
              go_wp2_with fail
              go_ret
              exact ⟨ret_bool (a := false) (HF.out).symm, rfl⟩
            · by_cases g4 : 57 < (s[k].toNat : Int)
              · have HF := hid (HNo.out (by rw [Bool.eq_false_iff]; exact fun h => absurd (HR.out.1 h) (by omega)))
                clear h45
                go_wp2_with fail
                go_ret
                exact ⟨ret_bool (a := false) (HF.out).symm, rfl⟩
              · have HG' := hid (HG.out (HR.out.2 (by omega)) (fun h => by omega))
                clear h45
                go_wp2_with fail
                go_round
                case rel => exact ⟨k + 1, by omega, by go_num, hid HG'.out.1, hid HG'.out.2⟩
                case measure => simp [intOf]; omega
    · have HK := hid (show s.data.toList.take k = s.data.toList from List.take_of_length_le (by simp; omega))
      go_wp2_with fail
      go_ret
      exact ⟨ret_bool (a := true) (by rw [HO.out, ← HK.out, hf.out, hf0.out (by omega)]; rfl), rfl⟩
end Go.Proofs.YtdoklolinbmhpaaGreat
