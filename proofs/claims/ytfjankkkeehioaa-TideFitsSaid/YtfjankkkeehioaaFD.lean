/- Tide, part FD: TideFits' walk. -/
import Derived.Test.YtfjankkkeehioaaFB
import Derived.Test.YtfjankkkeehioaaFC
import Derived.Test.YtfjankkkeehioaaTP
set_option linter.all false
namespace Go.Proofs.Ytfjankkkeehioaa
open Go.RowKit

theorem fitVal (g : Gau) (p : GPos) (n x : Int) (la : Option Addr) (lc : Nat) (L : List (Int × Int)) (s : (Int × Int) × Int) (w : World) (hok : GauOk w p g) (hll : L.length ≤ 140737488355328) (hL : SpansAt w la L) (hs : fitP g n x L = s) :
    Calls Try.prog 37 #[.agg #[.string g.name, .int .i64 g.err, .int .i64 g.rate, .slice p.da g.ds.length p.dc, .slice p.ra g.rs.length p.rc], .int .i64 n, .int .i64 x, .slice la L.length lc] w
      fun e w' => e = .returned (.tuple #[.agg #[.int .i64 s.1.1, .int .i64 s.1.2], .int .i64 s.2]) ∧ Below w.heap.size w w' := by
  rw [← hs]; exact fitFn_any g p n x la lc L w hok hll hL
theorem rfitVal (g : Gau) (p : GPos) (n x : Int) (la : Option Addr) (lc : Nat) (L : List (Int × Int)) (s : (Int × Int) × Int) (w : World) (hok : GauOk w p g) (hll : L.length ≤ 140737488355328) (hL : SpansAt w la L) (hs : fitP g n x L = s) :
    Calls Try.prog 38 #[.agg #[.string g.name, .int .i64 g.err, .int .i64 g.rate, .slice p.da g.ds.length p.dc, .slice p.ra g.rs.length p.rc], .int .i64 n, .int .i64 x, .slice la L.length lc] w
      fun e w' => e = .returned (.tuple #[.agg #[.int .i64 s.1.1, .int .i64 s.1.2], .int .i64 s.2]) ∧ Below w.heap.size w w' := by
  rw [← hs]; exact rfitFn_any g p n x la lc L w hok hll hL

set_option maxRecDepth 100000 in
set_option maxHeartbeats 2000000 in
theorem lawFits_any (g : Gau) (p : GPos) (n x : Int) (la : Option Addr) (lc : Nat) (L : List (Int × Int)) (w : World) (hok : GauOk w p g) (hll : L.length ≤ 140737488355328) (hL : SpansAt w la L) :
    Calls Try.prog 7 #[.agg #[.string g.name, .int .i64 g.err, .int .i64 g.rate, .slice p.da g.ds.length p.dc, .slice p.ra g.rs.length p.rc], .agg #[.int .i64 n, .int .i64 x, .slice la L.length lc]] w
      fun e w' => e = .returned (.bool true) ∧ Below w.heap.size w w' := by
  obtain ⟨s, hs⟩ : ∃ s, fitP g n x L = s := ⟨_, rfl⟩
  have HH := hid hok; have HS := hid hs; have HSp := hid hL; clear hok hs hL
  go_enter Try.func7, Try.ntmps7
  go_wp2_with fail
  generalize hW1 : World.alloc (World.alloc w _) _ = W1
  have B1 : Below w.heap.size w W1 := by rw [← hW1]; exact ((Below.refl _ _).alloc (Nat.le_refl _) _).alloc (by simp) _
  have S1 : w.heap.size + 1 < W1.heap.size := by rw [← hW1]; simp
  have hbox : GauBox W1 w.heap.size g p := by rw [← hW1]; exact ⟨by simp [go_sem], by simp [go_sem], by simp [go_sem], by simp [go_sem], by simp [go_sem]⟩
  have X0 := hid (show W1.cell? ⟨w.heap.size + 1, 0, none⟩ = some (.int .i64 n) by rw [← hW1]; simp [go_sem])
  have X1 := hid (show W1.cell? ⟨w.heap.size + 1, 1, none⟩ = some (.int .i64 x) by rw [← hW1]; simp [go_sem])
  have X2 := hid (show W1.cell? ⟨w.heap.size + 1, 2, none⟩ = some (.slice la L.length lc) by rw [← hW1]; simp [go_sem])
  clear hW1
  have HB := hid hbox; clear hbox
  refine (fitVal g p n x la lc L s _ (HH.out.later B1 (Nat.le_refl _)) hll (HSp.out.later B1 (Nat.le_refl _)) HS.out).mono ?_
  rintro e W2 ⟨rfl, B2⟩
  have BW2 : Below w.heap.size w W2 := B1.trans (B2.mono (by omega))
  obtain ⟨c0, c1, c2, c3, c4⟩ := HB.out.later B2 (by omega)
  have x0 := (B2.cell (p := ⟨w.heap.size + 1, 0, none⟩) S1).trans X0.out
  have x1 := (B2.cell (p := ⟨w.heap.size + 1, 1, none⟩) S1).trans X1.out
  have x2 := (B2.cell (p := ⟨w.heap.size + 1, 2, none⟩) S1).trans X2.out
  have l2 : w.heap.size + 1 < W2.heap.size := Nat.lt_of_lt_of_le S1 B2.size
  have l2' : w.heap.size < W2.heap.size := by omega
  have n2 : w.heap.size ≠ W2.heap.size := by omega
  have n2' : w.heap.size + 1 ≠ W2.heap.size := by omega
  clear B2
  go_wp2_with fail
  refine (rfitVal g p n x la lc L s _ (HH.out.later (BW2.alloc (by omega) _) (Nat.le_refl _)) hll (HSp.out.later (BW2.alloc (by omega) _) (Nat.le_refl _)) HS.out).mono ?_
  rintro e W3 ⟨rfl, B3⟩
  have a0 : W3.cell? ⟨W2.heap.size, 0, none⟩ = some (.int .i64 s.1.1) := (B3.cell (p := ⟨W2.heap.size, 0, none⟩) (by simp)).trans (by simp [go_sem])
  have a1 : W3.cell? ⟨W2.heap.size, 1, none⟩ = some (.int .i64 s.1.2) := (B3.cell (p := ⟨W2.heap.size, 1, none⟩) (by simp)).trans (by simp [go_sem])
  have BW3 : Below w.heap.size w W3 := (BW2.alloc (by omega) _).trans (B3.mono (by simp; omega))
  have l3 : W2.heap.size < W3.heap.size := by have := B3.size; simp at this; omega
  have n3 : W2.heap.size ≠ W3.heap.size := by omega
  clear B3 BW2 c0 c1 c2 c3 c4 x0 x1 x2 n2 n2'
  go_wp2_with fail
  refine (awake_any _).mono ?_
  rintro e W4 ⟨rfl, B4⟩
  have BW4 : Below w.heap.size w W4 := (BW3.alloc (by omega) _).trans (B4.mono (by simp; omega))
  clear B4 BW3 a0 a1
  go_wp2_with fail
  go_ret
  exact ⟨rfl, BW4⟩
end Go.Proofs.Ytfjankkkeehioaa
