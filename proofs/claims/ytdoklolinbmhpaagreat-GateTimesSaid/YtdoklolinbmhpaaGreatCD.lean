/- Gate, part CD: the reference's floor and clamp. -/
import Derived.Test.YtdoklolinbmhpaaGreatCC
import Derived.Test.YtdoklolinbmhpaaGreatUG
set_option linter.all false
namespace Go.Proofs.YtdoklolinbmhpaaGreat
open Go.RowKit

theorem rfloor_any (n d : Int) (w : World) (hn : Half n) (hd : 1 ≤ d) (hd2 : d ≤ 1000000000) :
    Calls Tryz.prog 125 #[.int .i64 n, .int .i64 d] w fun e w' => e = .returned (.int .i64 (n / d)) ∧ w = w' := by
  obtain ⟨b3, b4⟩ := tdiv_bds n d hn hd
  have e1 := Int.tmod_add_mul_tdiv n d
  rw [Int.mul_comm] at e1
  have t1 : n.tmod d < d := Int.tmod_lt_of_pos n (by omega)
  have t2 : -d < n.tmod d := by have := Int.tmod_lt_of_pos (-n) (show 0 < d by omega); rw [Int.neg_tmod] at this; omega
  have hd0 : ¬ d = 0 := by omega
  have hz : (d == 0) = false := by simp [hd0]
  obtain ⟨h1, h2⟩ := hn
  by_cases g1 : n.tmod d < 0
  · have E1 := hid (tdiv_neg n d (by omega) g1)
    have m1 : -9000000000000000000 ≤ n.tdiv d * d := by omega
    have m2 : n.tdiv d * d ≤ 9000000000000000000 := by omega
    have v3 :  n < n.tdiv d * d := by omega
    clear e1 t1 t2 g1
    go_enter Tryz.func125, Tryz.ntmps125
    go_wp2_with fail
    go_ret
    exact ⟨ret_i E1.out, rfl⟩
  · have E1 := hid (tdiv_pos n d (by omega) g1)
    have m1 : -9000000000000000000 ≤ n.tdiv d * d := by omega
    have m2 : n.tdiv d * d ≤ 9000000000000000000 := by omega
    have v3 : ¬ n < n.tdiv d * d := by omega
    clear e1 t1 t2 g1
    go_enter Tryz.func125, Tryz.ntmps125
    go_wp2_with fail
    go_ret
    exact ⟨ret_i E1.out, rfl⟩
theorem rclamp_any (n m : Int) (w : World) :
    Calls Tryz.prog 126 #[.int .i64 n, .int .i64 m] w fun e w' => e = .returned (.int .i64 (min (max n 0) m)) ∧ w = w' := by
  go_enter Tryz.func126, Tryz.ntmps126
  go_wp2_with fail
  go_ret
  exact ⟨rfl, rfl⟩
end Go.Proofs.YtdoklolinbmhpaaGreat
