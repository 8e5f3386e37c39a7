/- Tide, part ZGD: as ZD, for the great seat: the contracts by their values. -/
import Derived.Test.YtblneiegekdnjaaGreatZGC
import Derived.Test.YtblneiegekdnjaaGreatTP
set_option linter.all false
namespace Go.Proofs.YtblneiegekdnjaaGreat
open Go.RowKit

theorem levelVal (mean : Int) (a : Option Addr) (cap : Nat) (cs : List Con) (t : Int) (q : (Int × Int) × Int) (w : World) (hok : ConsOk w a cap cs) (hq : levelP mean cs t = q) :
    Calls Tryz.prog 20 #[.agg #[.int .i64 mean, .slice a cs.length cap], .int .i64 t] w
      fun e w' => e = .returned (.tuple #[.agg #[.int .i64 q.1.1, .int .i64 q.1.2], .int .i64 q.2]) ∧ Below w.heap.size w w' := by
  rw [← hq]; exact levelFn_any mean a cap cs t w hok
theorem levelsVal (mean : Int) (a : Option Addr) (cap : Nat) (cs : List Con) (x n : Int) (L : List (Int × Int) × Int) (w : World) (hok : ConsOk w a cap cs) (hL : levelsP mean cs x n = L) :
    Calls Tryz.prog 13 #[.agg #[.int .i64 mean, .slice a cs.length cap], .int .i64 x, .int .i64 n] w
      fun e w' => ∃ la lc, e = .returned (.tuple #[.slice la L.1.length lc, .int .i64 L.2]) ∧ SpansAt w' la L.1 ∧ Below w.heap.size w w' := by
  rw [← hL]; exact levelsFn_any mean a cap cs x n w hok
theorem rlevelsVal (mean : Int) (a : Option Addr) (cap : Nat) (cs : List Con) (x n : Int) (L : List (Int × Int) × Int) (w : World) (hok : ConsOk w a cap cs) (hL : levelsP mean cs x n = L) :
    Calls Tryz.prog 14 #[.agg #[.int .i64 mean, .slice a cs.length cap], .int .i64 x, .int .i64 n] w
      fun e w' => ∃ la lc, e = .returned (.tuple #[.slice la L.1.length lc, .int .i64 L.2]) ∧ SpansAt w' la L.1 ∧ Below w.heap.size w w' := by
  rw [← hL]; exact rlevels_any mean a cap cs x n w hok
theorem levelsP_len (mean : Int) (cs : List Con) (x n : Int) : (levelsP mean cs x n).1.length ≤ 400 := by
  unfold levelsP
  split
  · simp
  split
  · simp
  · rename_i h
    obtain ⟨m, hm, h4, _⟩ := someE_ok (Decidable.not_not.1 h)
    simp only [levelsL_len]; omega

end Go.Proofs.YtblneiegekdnjaaGreat
