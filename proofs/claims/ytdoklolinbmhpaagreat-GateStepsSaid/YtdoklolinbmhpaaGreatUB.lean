/- Base, part UB: names. -/
import Derived.Test.YtdoklolinbmhpaaGreatUA
set_option linter.all false
namespace Go.Proofs.YtdoklolinbmhpaaGreat
open Go.RowKit

/-- A byte in the range of a lower-case letter; of a digit. -/
def letB (c : UInt8) : Bool := decide (97 ≤ (c.toNat : Int) ∧ (c.toNat : Int) ≤ 122)
def digB (c : UInt8) : Bool := decide (48 ≤ (c.toNat : Int) ∧ (c.toNat : Int) ≤ 57)
def restB (c : UInt8) : Bool := letB c || digB c || decide ((c.toNat : Int) = 45)
def nameB (l : List UInt8) : Bool := match l with | [] => false | c :: r => decide (r.length < 24) && letB c && r.all restB

theorem isLetter_any (c : UInt8) (w : World) :
    Calls Tryz.prog 129 #[.int .u8 c.toNat] w fun e w' => e = .returned (.bool (letB c)) ∧ w = w' := by
  by_cases h1 : 97 ≤ (c.toNat : Int) <;> by_cases h2 : (c.toNat : Int) ≤ 122
  all_goals
    have h : letB c = decide (97 ≤ (c.toNat : Int) ∧ (c.toNat : Int) ≤ 122) := rfl
    simp only [h1, h2, and_self, and_true, and_false, decide_true, decide_false] at h
    have H := hid h; clear h
    go_enter Tryz.func129, Tryz.ntmps129
    go_wp2
    go_ret
    exact ⟨by rw [H.out]; simp [*], rfl⟩
theorem isDigit_any (c : UInt8) (w : World) :
    Calls Tryz.prog 130 #[.int .u8 c.toNat] w fun e w' => e = .returned (.bool (digB c)) ∧ w = w' := by
  by_cases h1 : 48 ≤ (c.toNat : Int) <;> by_cases h2 : (c.toNat : Int) ≤ 57
  all_goals
    have h : digB c = decide (48 ≤ (c.toNat : Int) ∧ (c.toNat : Int) ≤ 57) := rfl
    simp only [h1, h2, and_self, and_true, and_false, decide_true, decide_false] at h
    have H := hid h; clear h
    go_enter Tryz.func130, Tryz.ntmps130
    go_wp2
    go_ret
    exact ⟨by rw [H.out]; simp [*], rfl⟩

theorem restB_of_letB {c : UInt8} (h : letB c = true) : restB c = true := by simp [restB, h]
theorem nameB_len {l : List UInt8} (h : nameB l = true) : 0 < l.length ∧ l.length ≤ 24 := by
  cases l with
  | nil => simp [nameB] at h
  | cons c r => simp [nameB] at h; simp; omega
theorem all_take_succ (l : List UInt8) (k : Nat) (h : k < l.length) (p : UInt8 → Bool) : (l.take (k + 1)).all p = ((l.take k).all p && p l[k]) := by
  rw [List.take_succ_eq_append_getElem h, List.all_append]; simp
theorem nameB_of {l : List UInt8} (h0 : 0 < l.length) : nameB l = (decide (l.length ≤ 24) && letB l[0] && l.all restB) := by
  cases l with
  | nil => simp at h0
  | cons c r =>
    simp only [nameB, List.length_cons, List.getElem_cons_zero, List.all_cons]
    cases h : letB c
    · simp
    · simp [restB_of_letB h]; exact congrArg (· && r.all restB) (decide_eq_decide.2 (by omega))

theorem ret_bool {a b : Bool} (h : a = b) : Ending.returned (.bool a) = Ending.returned (.bool b) := by rw [h]
theorem str_get (s : ByteArray) (k : Nat) (h : k < s.size) : s.data.toList[k]'(by simpa using h) = s[k] := by simp [ByteArray.getElem_eq_getElem_data]
theorem str_len (s : ByteArray) : s.data.toList.length = s.size := by simp

set_option maxRecDepth 20000 in
set_option maxHeartbeats 400000 in
theorem name_any (s : ByteArray) (w : World) (hs : s.size ≤ maxLen) :
    Calls Tryz.prog 118 #[.string s] w fun e w' => e = .returned (.bool (nameB s.data.toList)) ∧ w = w' := by
  unfold maxLen at hs
  by_cases h0 : s.size = 0
  · obtain rfl : s = ByteArray.empty := by
      apply ByteArray.ext; apply Array.eq_empty_of_size_eq_zero; simpa using h0
    clear h0 hs
    go_enter Tryz.func118, Tryz.ntmps118
    go_wp2_with fail
    go_ret
    exact ⟨ret_bool (a := false) rfl, rfl⟩
  have hp : 0 < s.size := by omega
  have h0' : ((s.size : Int) == 0) = false := by rw [beq_eq_false_iff_ne]; omega
  have hO := nameB_of (l := s.data.toList) (by simpa using hp)
  rw [str_get s 0 hp] at hO
  simp only [str_len] at hO
  have HO := hid hO; clear hO
  by_cases h24 : 24 < s.size
  · have h24' : (24 : Int) < s.size := by omega
    go_enter Tryz.func118, Tryz.ntmps118
    go_wp2_with fail
    go_ret
    exact ⟨ret_bool (a := false) (by rw [HO.out]; simp; omega), rfl⟩
  have h24' : ¬ (24 : Int) < s.size := by omega
  cases hl0 : letB s[0]
  · go_enter Tryz.func118, Tryz.ntmps118
    go_wp2_with (go_at_call 129; refine (isLetter_any _ _).mono ?_; rintro e w' ⟨rfl, rfl⟩)
    go_ret
    exact ⟨ret_bool (a := false) (by rw [HO.out, hl0]; simp), rfl⟩
  have hO : nameB s.data.toList = s.data.toList.all restB := by
    rw [HO.out, hl0, decide_eq_true (by omega)]; simp
  clear HO
  have HO := hid hO; clear hO
  go_enter Tryz.func118, Tryz.ntmps118
  go_wp2_with (go_at_call 129; refine (isLetter_any _ _).mono ?_; rintro e w' ⟨rfl, rfl⟩)
  have HL := hid hl0; clear hl0
  go_loop [3, 20] (fun _ i => ∃ k : Nat, k ≤ s.size ∧ i = .int .i64 k ∧ Hid ((s.data.toList.take k).all restB = true)) (fun _ i => s.size - (intOf i).toNat)
  case atStart => exact ⟨0, Nat.zero_le _, rfl, hid (by simp)⟩
  case round =>
    obtain ⟨k, hk, rfl, hf⟩ := hrel
    by_cases hlt : k < s.size
    · have hT := all_take_succ s.data.toList k (by simpa using hlt) restB
      rw [str_get s k hlt] at hT
      have HT := hid hT; clear hT
      have HR := hid (show restB s[k] = (letB s[k] || digB s[k] || decide ((s[k].toNat : Int) = 45)) from rfl)
      have HA := hid (fun (h : restB s[k] = false) => show s.data.toList.all restB = false by
        rw [List.all_eq_false]; exact ⟨s[k], by rw [← str_get s k hlt]; exact List.getElem_mem _, by simp [h]⟩)
      cases hl : letB s[k]
      · cases hd : digB s[k]
        · by_cases h45 : (s[k].toNat : Int) = 45
          · have h45' : ((s[k].toNat : Int) != 45) = false := by simp [h45]
            have H45 := hid h45; clear h45
            go_wp2_with (first | (go_at_call 129; refine (isLetter_any _ _).mono ?_; rintro e w' ⟨rfl, rfl⟩) | (go_at_call 130; refine (isDigit_any _ _).mono ?_; rintro e w' ⟨rfl, rfl⟩))
            go_round
            case rel => exact ⟨k + 1, by omega, by go_num, hid (by rw [HT.out, hf.out, HR.out]; simp [H45.out])⟩
            case measure => simp [intOf]; omega
          · have h45' : ((s[k].toNat : Int) != 45) = true := by simp [h45]
            have H45 := hid h45; clear h45
            go_wp2_with (first | (go_at_call 129; refine (isLetter_any _ _).mono ?_; rintro e w' ⟨rfl, rfl⟩) | (go_at_call 130; refine (isDigit_any _ _).mono ?_; rintro e w' ⟨rfl, rfl⟩))
            go_ret
            exact ⟨ret_bool (a := false) (by rw [HO.out, HA.out (by rw [HR.out, hl, hd]; simp [H45.out])]), rfl⟩
        · go_wp2_with (first | (go_at_call 129; refine (isLetter_any _ _).mono ?_; rintro e w' ⟨rfl, rfl⟩) | (go_at_call 130; refine (isDigit_any _ _).mono ?_; rintro e w' ⟨rfl, rfl⟩))
          go_round
          case rel => exact ⟨k + 1, by omega, by go_num, hid (by rw [HT.out, hf.out, HR.out, hd]; simp)⟩
          case measure => simp [intOf]; omega
      · go_wp2_with (first | (go_at_call 129; refine (isLetter_any _ _).mono ?_; rintro e w' ⟨rfl, rfl⟩) | (go_at_call 130; refine (isDigit_any _ _).mono ?_; rintro e w' ⟨rfl, rfl⟩))
        go_round
        case rel => exact ⟨k + 1, by omega, by go_num, hid (by rw [HT.out, hf.out, HR.out, hl]; simp)⟩
        case measure => simp [intOf]; omega
    · have HK := hid (show s.data.toList.take k = s.data.toList from List.take_of_length_le (by simp; omega))
      go_wp2_with fail
      go_ret
      exact ⟨ret_bool (a := true) (by rw [HO.out, ← HK.out, hf.out]), rfl⟩
end Go.Proofs.YtdoklolinbmhpaaGreat
