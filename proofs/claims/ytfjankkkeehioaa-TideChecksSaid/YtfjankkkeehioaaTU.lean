/- Tide, part U: what Name and Check answer, against the reference. -/
import Derived.Test.YtfjankkkeehioaaTP
set_option linter.all false
namespace Go.Proofs.Ytfjankkkeehioaa
open Go.RowKit

theorem checkVal (mean : Int) (a : Option Addr) (cap : Nat) (cs : List Con) (w : World) (q : Int × Int) (h : ConsOk w a cap cs) (hq : checkP mean cs = q) :
    Calls Try.prog 18 #[.agg #[.int .i64 mean, .slice a cs.length cap]] w fun e w' => e = .returned (.tuple #[.int .i64 q.1, .int .i64 q.2]) ∧ Below w.heap.size w w' := by
  rw [← hq]; exact check_any mean a cap cs w h
theorem rcheckVal (mean : Int) (a : Option Addr) (cap : Nat) (cs : List Con) (w : World) (q : Int × Int) (h : ConsOk w a cap cs) (hq : checkP mean cs = q) :
    Calls Try.prog 19 #[.agg #[.int .i64 mean, .slice a cs.length cap]] w fun e w' => e = .returned (.tuple #[.int .i64 q.1, .int .i64 q.2]) ∧ Below w.heap.size w w' := by
  rw [← hq]; exact rcheck_any mean a cap cs w h
theorem nameVal (s : ByteArray) (w : World) (v : Bool) (hs : s.size ≤ maxLen) (hv : nameB s.data.toList = v) :
    Calls Try.prog 20 #[.string s] w fun e w' => e = .returned (.bool v) ∧ w = w' := by
  rw [← hv]; exact name_any s w hs
theorem rnameVal (s : ByteArray) (w : World) (v : Bool) (hs : s.size ≤ maxLen) (hv : nameB s.data.toList = v) :
    Calls Try.prog 21 #[.string s] w fun e w' => e = .returned (.bool v) ∧ w = w' := by
  rw [← hv]; exact rname_any s w hs

set_option maxRecDepth 100000 in
set_option maxHeartbeats 2000000 in
theorem checks_any (s : ByteArray) (mean : Int) (a : Option Addr) (cap : Nat) (cs : List Con) (w : World) (hs : s.size ≤ maxLen) (h : ConsOk w a cap cs) :
    Calls Try.prog 3 #[.string s, .agg #[.int .i64 mean, .slice a cs.length cap]] w fun e w' => e = .returned (.bool true) ∧ Below w.heap.size w w' := by
  obtain ⟨q, hq⟩ : ∃ q, checkP mean cs = q := ⟨_, rfl⟩
  obtain ⟨v, hv⟩ : ∃ v, nameB s.data.toList = v := ⟨_, rfl⟩
  have HO := hid h; have HQ := hid hq; have HV := hid hv; have HS := hid hs; clear h hq hv hs
  go_enter Try.func3, Try.ntmps3
  go_wp2_with fail
  refine (checkVal mean a cap cs _ q (HO.out.later ((Below.refl _ _).alloc (Nat.le_refl _) _) (Nat.le_refl _)) HQ.out).mono ?_
  rintro e W2 ⟨rfl, B2⟩
  have c0 : W2.cell? ⟨w.heap.size, 0, none⟩ = some (.int .i64 mean) := (B2.cell (p := ⟨w.heap.size, 0, none⟩) (by simp)).trans (by simp [go_sem])
  have c1 : W2.cell? ⟨w.heap.size, 1, none⟩ = some (.slice a cs.length cap) := (B2.cell (p := ⟨w.heap.size, 1, none⟩) (by simp)).trans (by simp [go_sem])
  have BW2 : Below w.heap.size w W2 := ((Below.refl _ _).alloc (Nat.le_refl _) _).trans (B2.mono (by simp))
  clear B2
  go_wp2_with fail
  refine (rcheckVal mean a cap cs _ q (HO.out.later BW2 (Nat.le_refl _)) HQ.out).mono ?_
  rintro e W3 ⟨rfl, B3⟩
  have BW3 := BW2.trans (B3.mono BW2.size)
  clear B3 BW2 c0 c1 HO HQ
  go_wp2_with (first | (go_at_call 20; refine (nameVal s _ v HS.out HV.out).mono ?_; rintro e w' ⟨rfl, rfl⟩) | (go_at_call 21; refine (rnameVal s _ v HS.out HV.out).mono ?_; rintro e w' ⟨rfl, rfl⟩))
  refine (awake_any _).mono ?_
  rintro e W5 ⟨rfl, B5⟩
  have BW5 := BW3.trans (B5.mono BW3.size)
  clear B5 BW3
  go_wp2_with fail
  go_ret
  exact ⟨rfl, BW5⟩
end Go.Proofs.Ytfjankkkeehioaa
