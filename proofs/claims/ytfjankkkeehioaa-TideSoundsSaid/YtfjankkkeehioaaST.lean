/- Tide, part ST: the walk of TideSounds. -/
import Derived.Test.YtfjankkkeehioaaSM
import Derived.Test.YtfjankkkeehioaaSS
import Derived.Test.YtfjankkkeehioaaZC
import Derived.Test.YtfjankkkeehioaaTP
set_option linter.all false
namespace Go.Proofs.Ytfjankkkeehioaa
open Go.RowKit Go.Shelf

set_option maxRecDepth 100000 in
set_option maxHeartbeats 8000000 in
theorem lawSounds_any (a : Option Addr) (cap : Nat) (gs : List Gau) (x y z : Int) (w : World) (hcap : gs.length ≤ cap) (hlen : gs.length ≤ 140737488355328) (hgs : GausAt w a gs) :
    Calls Try.prog 6 #[.slice a gs.length cap, .agg #[.int .i64 x, .int .i64 y, .int .i64 z]] w
      fun e w' => e = .returned (.bool true) ∧ Below w.heap.size w w' := by
  have HGs := hid hgs; clear hgs
  go_enter Try.func6, Try.ntmps6
  go_wp2_with fail
  generalize hW1 : World.alloc w _ = W1
  have B1 : Below w.heap.size w W1 := by rw [← hW1]; exact (Below.refl _ _).alloc (Nat.le_refl _) _
  have S1 : W1.heap.size = w.heap.size + 1 := by rw [← hW1]; simp
  have e0 : W1.cell? ⟨w.heap.size, 0, none⟩ = some (.int .i64 x) := by rw [← hW1]; simp [go_sem]
  have e1 : W1.cell? ⟨w.heap.size, 1, none⟩ = some (.int .i64 y) := by rw [← hW1]; simp [go_sem]
  have e2 : W1.cell? ⟨w.heap.size, 2, none⟩ = some (.int .i64 z) := by rw [← hW1]; simp [go_sem]
  clear hW1
  have KT := hid (show ∀ V, Below W1.heap.size W1 V → V.cell? ⟨w.heap.size, 0, none⟩ = some (.int .i64 x) ∧ V.cell? ⟨w.heap.size, 1, none⟩ = some (.int .i64 y) ∧ V.cell? ⟨w.heap.size, 2, none⟩ = some (.int .i64 z) from fun V hV =>
    have c : ∀ o, V.cell? ⟨w.heap.size, o, none⟩ = W1.cell? ⟨w.heap.size, o, none⟩ := fun o => hV.cell (p := ⟨w.heap.size, o, none⟩) (by show w.heap.size < _; omega)
    ⟨(c _).trans e0, (c _).trans e1, (c _).trans e2⟩)
  refine (sound_any a cap gs x y z _ hcap hlen (HGs.out.later B1 (Nat.le_refl _))).mono ?_
  rintro e W2 ⟨r, rfl, hr, B2⟩
  have hs2 := B2.size
  have BW2 : Below w.heap.size w W2 := B1.trans (B2.mono (by omega))
  clear e0 e1 e2
  obtain ⟨e0, e1, e2⟩ := KT.out W2 B2
  have n1 : w.heap.size < W2.heap.size := by omega
  go_wp2_with fail
  refine (rsound_any a cap gs x y z _ hlen (HGs.out.later (BW2.alloc (by omega) _) (Nat.le_refl _))).mono ?_
  rintro e W3 ⟨q, rfl, hq, B3⟩
  obtain rfl := hr.unique hq
  have hs3 := B3.size
  simp only [World.size_alloc] at hs3
  have B23 : Below W2.heap.size W2 W3 := ((Below.refl _ _).alloc (Nat.le_refl _) _).trans (B3.mono (by simp))
  have p0 : W3.cell? ⟨W2.heap.size, 0, none⟩ = some (.int .i64 r.1.1) := (B3.cell (p := ⟨W2.heap.size, 0, none⟩) (by simp)).trans (by simp [go_sem])
  have p1 : W3.cell? ⟨W2.heap.size, 1, none⟩ = some (.int .i64 r.1.2) := (B3.cell (p := ⟨W2.heap.size, 1, none⟩) (by simp)).trans (by simp [go_sem])
  have BW3 : Below w.heap.size w W3 := BW2.trans (B23.mono (by omega))
  have B13 : Below W1.heap.size W1 W3 := B2.trans (B23.mono hs2)
  clear e0 e1 e2 n1 hr hq B3
  obtain ⟨e0, e1, e2⟩ := KT.out W3 B13
  have n1 : w.heap.size < W3.heap.size := by omega
  have n2 : W2.heap.size < W3.heap.size := by omega
  go_wp2_with fail
  refine (agree_any a cap gs y z _ hcap hlen (HGs.out.later (BW3.alloc (by omega) _) (Nat.le_refl _))).mono ?_
  rintro e W4 ⟨m, L, er, b1, c1, rfl, hL, hL8, hag, B4⟩
  have hs4 := B4.size
  simp only [World.size_alloc] at hs4
  have B34 : Below W3.heap.size W3 W4 := ((Below.refl _ _).alloc (Nat.le_refl _) _).trans (B4.mono (by simp))
  have BW4 : Below w.heap.size w W4 := BW3.trans (B34.mono (by omega))
  have B14 : Below W1.heap.size W1 W4 := B13.trans (B34.mono (by omega))
  have HL := hid hL; have HAg := hid hag
  clear e0 e1 e2 n1 n2 p0 p1 B4 hL hag
  obtain ⟨e0, e1, e2⟩ := KT.out W4 B14
  go_wp2_with fail
  refine (ragree_any a cap gs y z _ hlen (HGs.out.later BW4 (Nat.le_refl _))).mono ?_
  rintro e W5 ⟨m2, L2, er2, b2, c2, rfl, hL2, _, hag2, B5⟩
  obtain ⟨rfl, rfl, rfl⟩ := HAg.out.unique hag2
  have BW5 : Below w.heap.size w W5 := BW4.trans (B5.mono BW4.size)
  have HL1 := hid (HL.out.later B5 (Nat.le_refl _))
  have HL2 := hid hL2
  clear hL2 hag2 e0 e1 e2 HAg
  go_wp2_with fail
  refine (rints_eq L b1 b2 c1 c2 _ (by omega) HL1.out HL2.out).mono ?_
  rintro e W6 ⟨rfl, B6⟩
  have BW6 : Below w.heap.size w W6 := BW5.trans (B6.mono BW5.size)
  go_wp2_with fail
  refine (awake_any _).mono ?_
  rintro e W7 ⟨rfl, B7⟩
  go_wp2_with fail
  go_ret
  exact ⟨rfl, BW6.trans (B7.mono BW6.size)⟩
end Go.Proofs.Ytfjankkkeehioaa
