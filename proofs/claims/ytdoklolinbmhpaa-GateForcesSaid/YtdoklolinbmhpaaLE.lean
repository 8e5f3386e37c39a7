/- Gate, part LE: the walk of GateForces. -/
import Derived.Test.YtdoklolinbmhpaaLA
import Derived.Test.YtdoklolinbmhpaaCF
set_option linter.all false
namespace Go.Proofs.Ytdoklolinbmhpaa
open Go.RowKit

/-- The two arguments of GateForces, in memory. -/
structure LeW (w : World) (g : Gt) (p : GtP) (a b c : Int) (x : World) : Prop where
  below : Below w.heap.size w x
  lt : w.heap.size + 1 < x.heap.size
  rows : x.rangeAt w.heap.size 0 (gtL g p)
  xs : x.rangeAt (w.heap.size + 1) 0 [.int .i64 a, .int .i64 b, .int .i64 c]
theorem LeW.later {w x y : World} {g : Gt} {p : GtP} {a b c : Int} (h : LeW w g p a b c x) (hb : Below x.heap.size x y) : LeW w g p a b c y := by
  have hl := h.lt
  exact ⟨bthen h.below hb, Nat.lt_of_lt_of_le hl hb.size, range_later h.rows hb (by omega), range_later h.xs hb (by omega)⟩
theorem LeW.start (w : World) (g : Gt) (p : GtP) (a b c : Int) : LeW w g p a b c ((w.alloc (.cells (gtL g p).toArray 33)).alloc (.cells #[.int .i64 a, .int .i64 b, .int .i64 c] 36)) := by
  obtain ⟨h1, h2, h3, h4⟩ := two_boxes (w := w) (cs := gtL g p) (ds := [.int .i64 a, .int .i64 b, .int .i64 c]) (T := 33) (S := 36) (Below.refl _ _)
  exact ⟨h4, h3, h1, h2⟩
set_option maxRecDepth 100000 in
set_option maxHeartbeats 4000000 in
theorem lawForces_any (g : Gt) (p : GtP) (a b c : Int) (w : World) (hok : GtOk w p g) :
    Calls Try.prog 4 #[.agg (gtL g p).toArray, .agg #[.int .i64 a, .int .i64 b, .int .i64 c]] w fun e w' => e = .returned (.bool true) ∧ Below w.heap.size w w' := by
  have H0 := hid (LeW.start w g p a b c)
  have HF := hid (fun W (hW : Below w.heap.size w W) => force_any g p a b c W (hok.later hW (Nat.le_refl _)))
  have HRF := hid (fun W (hW : Below w.heap.size w W) => rForce_any g p a b c W (hok.later hW (Nat.le_refl _)))
  have HA := hid (fun W (hW : Below w.heap.size w W) => falls_any g p b c W (hok.later hW (Nat.le_refl _)))
  have HRA := hid (fun W (hW : Below w.heap.size w W) => rFalls_any g p b c W (hok.later hW (Nat.le_refl _)))
  clear hok
  obtain ⟨f1, f2, f3, hf⟩ : ∃ x y z, forceP g a b c = (x, y, z) := ⟨_, _, _, rfl⟩
  obtain ⟨a1, a2, ha⟩ : ∃ x y, fallsP g b c = (x, y) := ⟨_, _, rfl⟩
  rw [hf] at HF HRF
  rw [ha] at HA HRA
  clear hf ha
  dsimp only at HF HRF HA HRA
  have q1 : (f1 != f1) = false := by simp
  have q2 : (f2 != f2) = false := by simp
  have q3 : (f3 != f3) = false := by simp
  have q4 : (a1 == a1) = true := by simp
  have q5 : (a2 == a2) = true := by simp
  have R := H0.out.rows
  have x0 := range_cell H0.out.xs (show [_, _, _][0]? = some (.int .i64 a) from rfl)
  have x1 := range_cell H0.out.xs (show [_, _, _][1]? = some (.int .i64 b) from rfl)
  have x2 := range_cell H0.out.xs (show [_, _, _][2]? = some (.int .i64 c) from rfl)
  go_enter Try.func4, Try.ntmps4
  go_wp2_with (refine wpList_load_mid rfl 33 _ rfl _ 0 rfl (gtL g p) _ R Try.underlying33 rfl (by kernel_rfl) ?_)
  refine (HF.out _ H0.out.below).mono ?_
  rintro e w1 ⟨rfl, hb⟩
  have H1 := hid (H0.out.later hb)
  clear R x0 x1 x2 hb
  have R := H1.out.rows
  have x0 := range_cell H1.out.xs (show [_, _, _][0]? = some (.int .i64 a) from rfl)
  have x1 := range_cell H1.out.xs (show [_, _, _][1]? = some (.int .i64 b) from rfl)
  have x2 := range_cell H1.out.xs (show [_, _, _][2]? = some (.int .i64 c) from rfl)
  go_wp2_with (refine wpList_load_mid rfl 33 _ rfl _ 0 rfl (gtL g p) _ R Try.underlying33 rfl (by kernel_rfl) ?_)
  refine (HRF.out _ H1.out.below).mono ?_
  rintro e w2 ⟨rfl, hb⟩
  have H2 := hid (H1.out.later hb)
  clear R x0 x1 x2 hb
  have R := H2.out.rows
  have x0 := range_cell H2.out.xs (show [_, _, _][0]? = some (.int .i64 a) from rfl)
  have x1 := range_cell H2.out.xs (show [_, _, _][1]? = some (.int .i64 b) from rfl)
  have x2 := range_cell H2.out.xs (show [_, _, _][2]? = some (.int .i64 c) from rfl)
  go_wp2_with (refine wpList_load_mid rfl 33 _ rfl _ 0 rfl (gtL g p) _ R Try.underlying33 rfl (by kernel_rfl) ?_)
  refine (HA.out _ H2.out.below).mono ?_
  rintro e w3 ⟨rfl, hb⟩
  have H3 := hid (H2.out.later hb)
  clear R x0 x1 x2 hb
  have R := H3.out.rows
  have x0 := range_cell H3.out.xs (show [_, _, _][0]? = some (.int .i64 a) from rfl)
  have x1 := range_cell H3.out.xs (show [_, _, _][1]? = some (.int .i64 b) from rfl)
  have x2 := range_cell H3.out.xs (show [_, _, _][2]? = some (.int .i64 c) from rfl)
  go_wp2_with (refine wpList_load_mid rfl 33 _ rfl _ 0 rfl (gtL g p) _ R Try.underlying33 rfl (by kernel_rfl) ?_)
  refine (HRA.out _ H3.out.below).mono ?_
  rintro e w4 ⟨rfl, hb⟩
  have H4 := hid (H3.out.later hb)
  clear R x0 x1 x2 hb
  go_wp2_with fail
  refine (awake_any _).mono ?_
  rintro e w9 ⟨rfl, hb9⟩
  go_wp2_with fail
  go_ret
  exact ⟨rfl, bthen H4.out.below hb9⟩
end Go.Proofs.Ytdoklolinbmhpaa
