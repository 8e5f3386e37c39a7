/- Tide, part ZD: TideLevels' walk. -/
import Derived.Test.YtblneiegekdnjaaZC
import Derived.Test.YtblneiegekdnjaaTP
set_option linter.all false
namespace Go.Proofs.Ytblneiegekdnjaa
open Go.RowKit

theorem levelVal (mean : Int) (a : Option Addr) (cap : Nat) (cs : List Con) (t : Int) (q : (Int × Int) × Int) (w : World) (hok : ConsOk w a cap cs) (hq : levelP mean cs t = q) :
    Calls Try.prog 23 #[.agg #[.int .i64 mean, .slice a cs.length cap], .int .i64 t] w
      fun e w' => e = .returned (.tuple #[.agg #[.int .i64 q.1.1, .int .i64 q.1.2], .int .i64 q.2]) ∧ Below w.heap.size w w' := by
  rw [← hq]; exact levelFn_any mean a cap cs t w hok
theorem rlevelVal (mean : Int) (a : Option Addr) (cap : Nat) (cs : List Con) (t : Int) (q : (Int × Int) × Int) (w : World) (hok : ConsOk w a cap cs) (hq : levelP mean cs t = q) :
    Calls Try.prog 24 #[.agg #[.int .i64 mean, .slice a cs.length cap], .int .i64 t] w
      fun e w' => e = .returned (.tuple #[.agg #[.int .i64 q.1.1, .int .i64 q.1.2], .int .i64 q.2]) ∧ Below w.heap.size w w' := by
  rw [← hq]; exact rlevelFn_any mean a cap cs t w hok
theorem levelsVal (mean : Int) (a : Option Addr) (cap : Nat) (cs : List Con) (x n : Int) (L : List (Int × Int) × Int) (w : World) (hok : ConsOk w a cap cs) (hL : levelsP mean cs x n = L) :
    Calls Try.prog 25 #[.agg #[.int .i64 mean, .slice a cs.length cap], .int .i64 x, .int .i64 n] w
      fun e w' => ∃ la lc, e = .returned (.tuple #[.slice la L.1.length lc, .int .i64 L.2]) ∧ SpansAt w' la L.1 ∧ Below w.heap.size w w' := by
  rw [← hL]; exact levelsFn_any mean a cap cs x n w hok
theorem rlevelsVal (mean : Int) (a : Option Addr) (cap : Nat) (cs : List Con) (x n : Int) (L : List (Int × Int) × Int) (w : World) (hok : ConsOk w a cap cs) (hL : levelsP mean cs x n = L) :
    Calls Try.prog 26 #[.agg #[.int .i64 mean, .slice a cs.length cap], .int .i64 x, .int .i64 n] w
      fun e w' => ∃ la lc, e = .returned (.tuple #[.slice la L.1.length lc, .int .i64 L.2]) ∧ SpansAt w' la L.1 ∧ Below w.heap.size w w' := by
  rw [← hL]; exact rlevels_any mean a cap cs x n w hok
theorem levelsP_len (mean : Int) (cs : List Con) (x n : Int) : (levelsP mean cs x n).1.length ≤ 400 := by
  unfold levelsP
  split
  · simp
  split
  · simp
  · rename_i h
    obtain ⟨m, hm, h4, _⟩ := someE_ok (Decidable.not_not.1 h)
    simp only [levelsL_len]; omega

set_option maxRecDepth 100000 in
set_option maxHeartbeats 2000000 in
theorem lawLevels_any (mean : Int) (a : Option Addr) (cap : Nat) (cs : List Con) (t n : Int) (w : World) (hok : ConsOk w a cap cs) :
    Calls Try.prog 4 #[.agg #[.int .i64 mean, .slice a cs.length cap], .int .i64 t, .int .i64 n] w
      fun e w' => e = .returned (.bool true) ∧ Below w.heap.size w w' := by
  obtain ⟨q, hq⟩ : ∃ q, levelP mean cs t = q := ⟨_, rfl⟩
  have hlen := levelsP_len mean cs t n
  obtain ⟨L, hL⟩ : ∃ L, levelsP mean cs t n = L := ⟨_, rfl⟩
  rw [hL] at hlen
  have HH := hid hok; have HQ := hid hq; have HL := hid hL; clear hok hq hL
  go_enter Try.func4, Try.ntmps4
  go_wp2_with fail
  generalize hW1 : World.alloc w _ = W1
  have B1 : Below w.heap.size w W1 := by rw [← hW1]; exact (Below.refl _ _).alloc (Nat.le_refl _) _
  have S1 : w.heap.size < W1.heap.size := by rw [← hW1]; simp
  have M0 := hid (show W1.cell? ⟨w.heap.size, 0, none⟩ = some (.int .i64 mean) by rw [← hW1]; simp [go_sem])
  have M1 := hid (show W1.cell? ⟨w.heap.size, 1, none⟩ = some (.slice a cs.length cap) by rw [← hW1]; simp [go_sem])
  clear hW1
  refine (levelVal mean a cap cs t q _ (HH.out.later B1 (Nat.le_refl _)) HQ.out).mono ?_
  rintro e W2 ⟨rfl, B2⟩
  have BW2 : Below w.heap.size w W2 := B1.trans (B2.mono (by omega))
  have G2 : Below W1.heap.size W1 W2 := B2
  clear B2
  have c0 := (G2.cell (p := ⟨w.heap.size, 0, none⟩) S1).trans M0.out
  have c1 := (G2.cell (p := ⟨w.heap.size, 1, none⟩) S1).trans M1.out
  have l2 : w.heap.size < W2.heap.size := Nat.lt_of_lt_of_le S1 G2.size
  have n2 : w.heap.size ≠ W2.heap.size := by omega
  go_wp2_with fail
  refine (rlevelVal mean a cap cs t q _ (HH.out.later (BW2.alloc (Nat.le_of_lt l2) _) (Nat.le_refl _)) HQ.out).mono ?_
  rintro e W3 ⟨rfl, B3⟩
  have a0 : W3.cell? ⟨W2.heap.size, 0, none⟩ = some (.int .i64 q.1.1) := (B3.cell (p := ⟨W2.heap.size, 0, none⟩) (by simp)).trans (by simp [go_sem])
  have a1 : W3.cell? ⟨W2.heap.size, 1, none⟩ = some (.int .i64 q.1.2) := (B3.cell (p := ⟨W2.heap.size, 1, none⟩) (by simp)).trans (by simp [go_sem])
  have BW3 : Below w.heap.size w W3 := (BW2.alloc (Nat.le_of_lt l2) _).trans (B3.mono (by simp; omega))
  have G3 : Below W1.heap.size W1 W3 := (G2.alloc G2.size _).trans (B3.mono (by have := G2.size; simp; omega))
  have l3 : W2.heap.size < W3.heap.size := by have := B3.size; simp at this; omega
  have n3 : W2.heap.size ≠ W3.heap.size := by omega
  clear B3 G2 BW2 c0 c1 n2
  have c0 := (G3.cell (p := ⟨w.heap.size, 0, none⟩) S1).trans M0.out
  have c1 := (G3.cell (p := ⟨w.heap.size, 1, none⟩) S1).trans M1.out
  have l3' : w.heap.size < W3.heap.size := by omega
  have n3' : w.heap.size ≠ W3.heap.size := by omega
  go_wp2_with fail
  refine (levelsVal mean a cap cs t n L _ (HH.out.later (BW3.alloc (Nat.le_of_lt l3') _) (Nat.le_refl _)) HL.out).mono ?_
  rintro e W4 ⟨la, lc, rfl, hsp, B4⟩
  have HSp := hid hsp; clear hsp
  have BW4 : Below w.heap.size w W4 := (BW3.alloc (Nat.le_of_lt l3') _).trans (B4.mono (by simp; omega))
  have G4 : Below W1.heap.size W1 W4 := (G3.alloc G3.size _).trans (B4.mono (by have := G3.size; simp; omega))
  clear B4 G3 BW3 c0 c1 a0 a1 n3 n3'
  have c0 := (G4.cell (p := ⟨w.heap.size, 0, none⟩) S1).trans M0.out
  have c1 := (G4.cell (p := ⟨w.heap.size, 1, none⟩) S1).trans M1.out
  go_wp2_with fail
  refine (rlevelsVal mean a cap cs t n L _ (HH.out.later BW4 (Nat.le_refl _)) HL.out).mono ?_
  rintro e W5 ⟨lb, ld, rfl, hsq, B5⟩
  have HSq := hid hsq; clear hsq
  have BW5 : Below w.heap.size w W5 := BW4.trans (B5.mono BW4.size)
  have HSp5 := hid (HSp.out.later B5 (Nat.le_refl _))
  clear HSp B5 BW4 G4 c0 c1
  go_wp2_with fail
  refine (rspans_eq L.1 la lb lc ld _ (by omega) HSp5.out HSq.out).mono ?_
  rintro e W6 ⟨rfl, B6⟩
  have BW6 : Below w.heap.size w W6 := BW5.trans (B6.mono BW5.size)
  clear B6 BW5
  go_wp2_with fail
  refine (awake_any _).mono ?_
  rintro e W7 ⟨rfl, B7⟩
  have BW7 : Below w.heap.size w W7 := BW6.trans (B7.mono BW6.size)
  clear B7 BW6
  go_wp2_with fail
  go_ret
  exact ⟨rfl, BW7⟩
end Go.Proofs.Ytblneiegekdnjaa
