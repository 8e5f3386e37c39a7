/- Gate, part YS: the reference's States, on equal lists. -/
import Derived.Test.YtdoklolinbmhpaaGreatWB
import Derived.Test.YtdoklolinbmhpaaGreatLA
set_option linter.all false
namespace Go.Proofs.YtdoklolinbmhpaaGreat
open Go.RowKit

set_option maxRecDepth 100000 in
set_option maxHeartbeats 4000000 in
theorem refStates_any (a b : Option Addr) (l : List St) (n c d : Nat) (w : World) (hn : l.length = n) (hn8 : n ≤ 140737488355328) (ha : RowsL (fun _ s => stL s) 3 w a l) (hb : RowsL (fun _ s => stL s) 3 w b l) :
    Calls Tryz.prog 12 #[.slice a n c, .slice b n d] w fun e w' => e = .returned (.bool true) ∧ Below w.heap.size w w' := by
  have HA := hid ha; have HB := hid hb; have HN := hid hn
  clear ha hb hn
  have c1 : ((n : Int) != (n : Int)) = false := by simp
  go_enter Tryz.func12, Tryz.ntmps12
  go_wp2_with fail
  go_loopw [5] (fun jv wr => ∃ j : Nat, j ≤ n ∧ jv = .int .i64 j ∧ Hid (Below w.heap.size w wr)) (fun jv _ => n - (intOf jv).toNat)
  case atStart => exact ⟨0, Nat.zero_le _, rfl, hid (Below.refl _ _)⟩
  case round =>
    obtain ⟨j, hj, rfl, hbw⟩ := hrel
    by_cases hlt : j < n
    · have hjl : j < l.length := by rw [HN.out]; exact hlt
      obtain ⟨x, o1, rfl, hx, hat⟩ := HA.out.row (by omega)
      obtain ⟨y, o2, rfl, hy, hat2⟩ := HB.out.row (by omega)
      have Rs := range_later (hat j hjl) hbw.out hx
      have Rt := range_later (hat2 j hjl) hbw.out hy
      generalize l[j] = s at *
      have s0 : wr.cell? ⟨x, o1 + j * 3, none⟩ = some (.int .i64 s.pos) := by simpa using Rs 0 _ (show (stL s)[0]? = some (.int .i64 s.pos) from rfl)
      have s1 : wr.cell? ⟨x, o1 + j * 3 + 1, none⟩ = some (.int .i64 s.charge) := Rs 1 _ rfl
      have s2 : wr.cell? ⟨x, o1 + j * 3 + 2, none⟩ = some (.bool s.bolted) := Rs 2 _ rfl
      have t0 : wr.cell? ⟨y, o2 + j * 3, none⟩ = some (.int .i64 s.pos) := by simpa using Rt 0 _ (show (stL s)[0]? = some (.int .i64 s.pos) from rfl)
      have t1 : wr.cell? ⟨y, o2 + j * 3 + 1, none⟩ = some (.int .i64 s.charge) := Rt 1 _ rfl
      have t2 : wr.cell? ⟨y, o2 + j * 3 + 2, none⟩ = some (.bool s.bolted) := Rt 2 _ rfl
      have hjI : (j : Int) < (n : Int) := by omega
      have hj0 : (0 : Int) ≤ (j : Int) := Int.natCast_nonneg _
      have vj : IntKind.i64.wrap ((j : Int) + 1) = ((j + 1 : Nat) : Int) := by rw [IntWalk.i64_in _ (by omega)]; omega
      clear hat hat2 Rs Rt
      go_wp2_with fail
      go_quiet (fail)
      have HW := hid (below_drewN hbw.out nq)
      clear hbw s0 s1 s2 t0 t1 t2
      go_wp2_with fail
      exact ⟨⟨j + 1, by omega, by go_num, HW⟩, by simp [intOf]; omega⟩
    · obtain rfl : j = n := by omega
      have hjj : ¬ ((j : Int) < (j : Int)) := by omega
      go_wp2_with fail
      go_ret
      exact ⟨rfl, hbw.out⟩
end Go.Proofs.YtdoklolinbmhpaaGreat
