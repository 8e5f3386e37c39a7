/- Tide, part ZGL: TideHighs' walk (great seat). -/
import Derived.Test.YtblneiegekdnjaaGreatZGS
set_option linter.all false
namespace Go.Proofs.YtblneiegekdnjaaGreat
open Go.RowKit

theorem rhighVal (mean : Int) (a : Option Addr) (cap : Nat) (cs : List Con) (x n : Int) (H : List Int × Int) (w : World) (hok : ConsOk w a cap cs) (hH : highP mean cs x n = H) :
    Calls Tryz.prog 6 #[.agg #[.int .i64 mean, .slice a cs.length cap], .int .i64 x, .int .i64 n] w
      fun e w' => ∃ la lc, e = .returned (.tuple #[.slice la H.1.length lc, .int .i64 H.2]) ∧ IntsAt w' la H.1 ∧ Below w.heap.size w w' := by
  rw [← hH]; exact rhigh_any mean a cap cs x n w hok
theorem periodVal' (mean : Int) (a : Option Addr) (cap : Nat) (cs : List Con) (p : Int × Int) (w : World) (hok : ConsOk w a cap cs) (hp : periodP mean cs = p) :
    Calls Tryz.prog 8 #[.agg #[.int .i64 mean, .slice a cs.length cap]] w
      fun e w' => e = .returned (.tuple #[.int .i64 p.1, .int .i64 p.2]) ∧ Below w.heap.size w w' := by
  rw [← hp]; exact period_any mean a cap cs w hok
theorem rperiodVal (mean : Int) (a : Option Addr) (cap : Nat) (cs : List Con) (p : Int × Int) (w : World) (hok : ConsOk w a cap cs) (hp : periodP mean cs = p) :
    Calls Tryz.prog 9 #[.agg #[.int .i64 mean, .slice a cs.length cap]] w
      fun e w' => e = .returned (.tuple #[.int .i64 p.1, .int .i64 p.2]) ∧ Below w.heap.size w w' := by
  rw [← hp]; exact rperiod_any mean a cap cs w hok
theorem highP_len (mean : Int) (cs : List Con) (x n : Int) : (highP mean cs x n).1.length ≤ 400 := by
  have h := levelsP_len mean cs x n
  rw [highP_eq]
  split
  · simp
  · exact Nat.le_trans (highK_len _ _ _) h

set_option maxRecDepth 100000 in
set_option maxHeartbeats 2000000 in
theorem lawHighs_any (mean : Int) (a : Option Addr) (cap : Nat) (cs : List Con) (x n : Int) (w : World) (hok : ConsOk w a cap cs) :
    Calls Tryz.prog 3 #[.agg #[.int .i64 mean, .slice a cs.length cap], .int .i64 x, .int .i64 n] w
      fun e w' => e = .returned (.bool true) ∧ Below w.heap.size w w' := by
  have hlen := highP_len mean cs x n
  obtain ⟨H, hH⟩ : ∃ H, highP mean cs x n = H := ⟨_, rfl⟩
  obtain ⟨pp, hp⟩ : ∃ pp, periodP mean cs = pp := ⟨_, rfl⟩
  rw [hH] at hlen
  have HH := hid hok; have HHi := hid hH; have HPe := hid hp; clear hok hH hp
  go_enter Tryz.func3, Tryz.ntmps3
  go_wp2_with fail
  generalize hW1 : World.alloc w _ = W1
  have B1 : Below w.heap.size w W1 := by rw [← hW1]; exact (Below.refl _ _).alloc (Nat.le_refl _) _
  have S1 : w.heap.size < W1.heap.size := by rw [← hW1]; simp
  have M0 := hid (show W1.cell? ⟨w.heap.size, 0, none⟩ = some (.int .i64 mean) by rw [← hW1]; simp [go_sem])
  have M1 := hid (show W1.cell? ⟨w.heap.size, 1, none⟩ = some (.slice a cs.length cap) by rw [← hW1]; simp [go_sem])
  clear hW1
  refine (highVal mean a cap cs x n H _ (HH.out.later B1 (Nat.le_refl _)) HHi.out).mono ?_
  rintro e W2 ⟨la, lc, rfl, hi1, B2⟩
  have HI1 := hid hi1; clear hi1
  have BW2 : Below w.heap.size w W2 := B1.trans (B2.mono (by omega))
  have G2 : Below W1.heap.size W1 W2 := B2
  clear B2
  have c0 := (G2.cell (p := ⟨w.heap.size, 0, none⟩) S1).trans M0.out
  have c1 := (G2.cell (p := ⟨w.heap.size, 1, none⟩) S1).trans M1.out
  go_wp2_with fail
  refine (rhighVal mean a cap cs x n H _ (HH.out.later BW2 (Nat.le_refl _)) HHi.out).mono ?_
  rintro e W3 ⟨lb, ld, rfl, hi2, B3⟩
  have HI2 := hid hi2; clear hi2
  have HI1' := hid (HI1.out.later B3 (Nat.le_refl _))
  have BW3 : Below w.heap.size w W3 := BW2.trans (B3.mono BW2.size)
  have G3 : Below W1.heap.size W1 W3 := G2.trans (B3.mono G2.size)
  clear B3 G2 BW2 c0 c1 HI1
  go_wp2_with fail
  refine (rints_eq H.1 la lb lc ld _ (by omega) HI1'.out HI2.out).mono ?_
  rintro e W4 ⟨rfl, B4⟩
  have BW4 : Below w.heap.size w W4 := BW3.trans (B4.mono BW3.size)
  have G4 : Below W1.heap.size W1 W4 := G3.trans (B4.mono G3.size)
  clear B4 G3 BW3
  have c0 := (G4.cell (p := ⟨w.heap.size, 0, none⟩) S1).trans M0.out
  have c1 := (G4.cell (p := ⟨w.heap.size, 1, none⟩) S1).trans M1.out
  go_wp2_with fail
  refine (periodVal' mean a cap cs pp _ (HH.out.later BW4 (Nat.le_refl _)) HPe.out).mono ?_
  rintro e W5 ⟨rfl, B5⟩
  have BW5 : Below w.heap.size w W5 := BW4.trans (B5.mono BW4.size)
  have G5 : Below W1.heap.size W1 W5 := G4.trans (B5.mono G4.size)
  clear B5 G4 BW4 c0 c1
  have c0 := (G5.cell (p := ⟨w.heap.size, 0, none⟩) S1).trans M0.out
  have c1 := (G5.cell (p := ⟨w.heap.size, 1, none⟩) S1).trans M1.out
  go_wp2_with fail
  refine (rperiodVal mean a cap cs pp _ (HH.out.later BW5 (Nat.le_refl _)) HPe.out).mono ?_
  rintro e W6 ⟨rfl, B6⟩
  have BW6 : Below w.heap.size w W6 := BW5.trans (B6.mono BW5.size)
  clear B6 G5 BW5 c0 c1
  go_wp2_with fail
  refine (awake_any _).mono ?_
  rintro e W7 ⟨rfl, B7⟩
  have BW7 : Below w.heap.size w W7 := BW6.trans (B7.mono BW6.size)
  clear B7 BW6
  go_wp2_with fail
  go_ret
  exact ⟨rfl, BW7⟩
end Go.Proofs.YtblneiegekdnjaaGreat
