/- Base, part UG: quotients. -/
import Derived.Test.YtdoklolinbmhpaaGreatUA
set_option linter.all false
namespace Go.Proofs.YtdoklolinbmhpaaGreat
open Go.RowKit

/-- Numbers small enough that two of them can be added. -/
def Half (x : Int) : Prop := -4611686018427387904 ≤ x ∧ x ≤ 4611686018427387903

/-! ### Quotients -/

theorem tdiv_neg (n d : Int) (hd : 0 < d) (h : n.tmod d < 0) : n.tdiv d - 1 = n / d := by
  have e1 := Int.tmod_add_mul_tdiv n d
  have e2 := Int.emod_add_mul_ediv n d
  have b1 := Int.emod_nonneg n (b := d) (by omega)
  have b2 := Int.emod_lt_of_pos n hd
  have b3 : -d < n.tmod d := by have := Int.tmod_lt_of_pos (-n) hd; rw [Int.neg_tmod] at this; omega
  have key : d * (n.tdiv d - n / d) = n % d - n.tmod d := by rw [Int.mul_sub]; omega
  by_cases hlt : n.tdiv d - n / d ≤ 0
  · have := Int.mul_nonpos_of_nonneg_of_nonpos (show 0 ≤ d by omega) hlt
    omega
  · by_cases hgt : n.tdiv d - n / d ≥ 2
    · have := Int.mul_le_mul_of_nonneg_left hgt (show 0 ≤ d by omega)
      omega
    · omega
theorem tdiv_pos (n d : Int) (hd : 0 < d) (h : ¬ n.tmod d < 0) : n.tdiv d = n / d := by
  have e1 := Int.tmod_add_mul_tdiv n d
  have e2 := Int.emod_add_mul_ediv n d
  have b1 := Int.emod_nonneg n (b := d) (by omega)
  have b2 := Int.emod_lt_of_pos n hd
  have b3 : n.tmod d < d := Int.tmod_lt_of_pos n hd
  have key : d * (n.tdiv d - n / d) = n % d - n.tmod d := by rw [Int.mul_sub]; omega
  by_cases hlt : n.tdiv d - n / d ≤ -1
  · have := Int.mul_le_mul_of_nonneg_left hlt (show 0 ≤ d by omega)
    omega
  · by_cases hgt : n.tdiv d - n / d ≥ 1
    · have := Int.mul_le_mul_of_nonneg_left hgt (show 0 ≤ d by omega)
      omega
    · omega
theorem tmod_zero (n d : Int) : n.tmod d = 0 ↔ n % d = 0 := by
  rw [← Int.dvd_iff_tmod_eq_zero, ← Int.dvd_iff_emod_eq_zero]
/-- The quotient, rounded up. -/
def upq (n d : Int) : Int := -((-n) / d)
theorem upq_eq (n d : Int) (h : n % d = 0) : upq n d = n / d := by
  unfold upq; rw [Int.neg_ediv_of_dvd (Int.dvd_of_emod_eq_zero h)]; omega
theorem upq_ne (n d : Int) (h : n % d ≠ 0) (hd : 0 < d) : upq n d = n / d + 1 := by
  unfold upq
  have e1 := Int.emod_add_mul_ediv n d
  have e2 := Int.emod_add_mul_ediv (-n) d
  have b1 := Int.emod_nonneg n (b := d) (by omega)
  have b2 := Int.emod_lt_of_pos n hd
  have b3 := Int.emod_nonneg (-n) (b := d) (by omega)
  have b4 := Int.emod_lt_of_pos (-n) hd
  have key : d * (n / d + (-n) / d) = -(n % d + (-n) % d) := by rw [Int.mul_add]; omega
  by_cases hlt : n / d + (-n) / d ≤ -2
  · have := Int.mul_le_mul_of_nonneg_left hlt (show 0 ≤ d by omega)
    omega
  · by_cases hgt : n / d + (-n) / d ≥ 0
    · have := Int.mul_nonneg (show 0 ≤ d by omega) hgt
      omega
    · omega

theorem ret_agg2 {a b c d : Int} (h : a = b) (k : c = d) : Ending.returned (.agg #[.int .i64 a, .int .i64 c]) = Ending.returned (.agg #[.int .i64 b, .int .i64 d]) := by rw [h, k]
theorem half_div {n d : Int} (h : Half n) (hd : 1 ≤ d) : Half (n / d) := by
  obtain ⟨h1, h2⟩ := h
  refine ⟨(Int.le_ediv_iff_mul_le (by omega)).2 (by omega), ?_⟩
  by_cases h : 0 ≤ n
  · exact Int.le_trans (Int.ediv_le_self d h) (by omega)
  · exact Int.le_trans (Int.ediv_nonpos_of_nonpos_of_neg (by omega) (by omega)) (by omega)
theorem half_upq {n d : Int} (h : -4611686018427387903 ≤ n ∧ n ≤ 4611686018427387903) (hd : 1 ≤ d) : Half (upq n d) := by
  obtain ⟨h1, h2⟩ := half_div (n := -n) (d := d) ⟨by omega, by omega⟩ hd
  have h3 : (-4611686018427387903 : Int) ≤ (-n) / d := (Int.le_ediv_iff_mul_le (by omega)).2 (by omega)
  unfold upq
  exact ⟨by omega, by omega⟩
theorem ret_i {a b : Int} (h : a = b) : Ending.returned (.int .i64 a) = .returned (.int .i64 b) := by rw [h]
theorem tdiv_bds (n d : Int) (hn : Half n) (hd : 1 ≤ d) : -4611686018427387904 ≤ n.tdiv d ∧ n.tdiv d ≤ 4611686018427387905 := by
  obtain ⟨h1, h2⟩ := hn
  have b1 : -4611686018427387904 ≤ n / d := (Int.le_ediv_iff_mul_le (by omega)).2 (by
    have : (-4611686018427387904) * d ≤ (-4611686018427387904) * 1 := Int.mul_le_mul_of_nonpos_left (by omega) hd
    omega)
  have b2 : n / d ≤ 4611686018427387904 := by
    by_cases h : 0 ≤ n
    · exact Int.le_trans (Int.ediv_le_self d h) (by omega)
    · exact Int.le_trans (Int.ediv_nonpos_of_nonpos_of_neg (by omega) (by omega)) (by omega)
  by_cases g1 : n.tmod d < 0
  · have := tdiv_neg n d (by omega) g1; omega
  · have := tdiv_pos n d (by omega) g1; omega
theorem roundDown_any (n d : Int) (w : World) (hn : Half n) (hd : 1 ≤ d) :
    Calls Tryz.prog 108 #[.int .i64 n, .int .i64 d] w fun e w' => e = .returned (.int .i64 (n / d)) ∧ w = w' := by
  obtain ⟨b3, b4⟩ := tdiv_bds n d hn hd
  obtain ⟨h1, h2⟩ := hn
  have hd0 : ¬ d = 0 := by omega
  by_cases g1 : n.tmod d < 0
  · have E1 := hid (tdiv_neg n d (by omega) g1)
    go_enter Tryz.func108, Tryz.ntmps108
    go_wp2_with fail
    go_ret
    exact ⟨ret_i E1.out, rfl⟩
  · have E1 := hid (tdiv_pos n d (by omega) g1)
    go_enter Tryz.func108, Tryz.ntmps108
    go_wp2_with fail
    go_ret
    exact ⟨ret_i E1.out, rfl⟩
theorem roundUp_any (n d : Int) (w : World) (hn : Half n) (hd : 1 ≤ d) :
    Calls Tryz.prog 59 #[.int .i64 n, .int .i64 d] w fun e w' => e = .returned (.int .i64 (upq n d)) ∧ w = w' := by
  obtain ⟨b3, b4⟩ := tdiv_bds n d hn hd
  obtain ⟨h1, h2⟩ := hn
  have hd0 : ¬ d = 0 := by omega
  by_cases g1 : 0 < n.tmod d
  · have E1 : Hid (n.tdiv d + 1 = upq n d) := hid (by
      rw [upq_ne n d (fun h => by have := (tmod_zero n d).2 h; omega) (by omega), tdiv_pos n d (by omega) (by omega)])
    go_enter Tryz.func59, Tryz.ntmps59
    go_wp2_with fail
    go_ret
    exact ⟨ret_i E1.out, rfl⟩
  · have E1 : Hid (n.tdiv d = upq n d) := hid (by
      by_cases g2 : n.tmod d = 0
      · rw [upq_eq n d ((tmod_zero n d).1 g2), tdiv_pos n d (by omega) (by omega)]
      · rw [upq_ne n d (fun h => g2 ((tmod_zero n d).2 h)) (by omega), ← tdiv_neg n d (by omega) (by omega)]; omega)
    go_enter Tryz.func59, Tryz.ntmps59
    go_wp2_with fail
    go_ret
    exact ⟨ret_i E1.out, rfl⟩
end Go.Proofs.YtdoklolinbmhpaaGreat
