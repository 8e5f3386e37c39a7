/- Gate, part LK: the walk of GateTimes. -/
import Derived.Test.YtdoklolinbmhpaaGreatYA
import Derived.Test.YtdoklolinbmhpaaGreatWZ
import Derived.Test.YtdoklolinbmhpaaGreatCT
set_option linter.all false
namespace Go.Proofs.YtdoklolinbmhpaaGreat
open Go.RowKit

/-- A gate, its state and the sides, in memory. -/
structure LkW (w : World) (g : Gt) (p : GtP) (s : St) (o i : Int) (pw : Bool) (x : World) : Prop where
  below : Below w.heap.size w x
  lt : w.heap.size + 1 + 1 < x.heap.size
  rows : x.rangeAt w.heap.size 0 (gtL g p)
  ss : x.rangeAt (w.heap.size + 1) 0 (stL s)
  xs : x.rangeAt (w.heap.size + 1 + 1) 0 [.int .i64 o, .int .i64 i, .bool pw]
theorem LkW.later {w x y : World} {g : Gt} {p : GtP} {s : St} {o i : Int} {pw : Bool} (h : LkW w g p s o i pw x) (hb : Below x.heap.size x y) : LkW w g p s o i pw y := by
  have hl := h.lt
  exact ⟨bthen h.below hb, Nat.lt_of_lt_of_le hl hb.size, range_later h.rows hb (by omega), range_later h.ss hb (by omega), range_later h.xs hb (by omega)⟩
theorem LkW.start (w : World) (g : Gt) (p : GtP) (s : St) (o i : Int) (pw : Bool) : LkW w g p s o i pw (((w.alloc (.cells (gtL g p).toArray 25)).alloc (.cells #[.int .i64 s.pos, .int .i64 s.charge, .bool s.bolted] 27)).alloc (.cells #[.int .i64 o, .int .i64 i, .bool pw] 43)) := by
  have H := DrW.start w g p s
  have sz : ((w.alloc (.cells (gtL g p).toArray 25)).alloc (.cells #[.int .i64 s.pos, .int .i64 s.charge, .bool s.bolted] 27)).heap.size = w.heap.size + 1 + 1 := by simp
  generalize World.alloc (World.alloc w _) _ = X at *
  obtain ⟨h1, h2, h3⟩ := one_box (w := X) (cs := [.int .i64 o, .int .i64 i, .bool pw]) (T := 43) (Below.refl _ _)
  rw [sz] at h1 h2
  have hl := H.lt
  exact ⟨bthen H.below h3, h2, range_later H.rows h3 (by omega), range_later H.ss h3 (by omega), h1⟩
set_option maxRecDepth 100000 in
set_option maxHeartbeats 4000000 in
theorem lawTimes_any (g : Gt) (p : GtP) (s : St) (o i : Int) (pw : Bool) (w : World) (hok : GtOk w p g) :
    Calls Tryz.prog 4 #[.agg (gtL g p).toArray, .agg #[.int .i64 s.pos, .int .i64 s.charge, .bool s.bolted], .agg #[.int .i64 o, .int .i64 i, .bool pw]] w fun e w' => e = .returned (.bool true) ∧ Below w.heap.size w w' := by
  have H0 := hid (LkW.start w g p s o i pw)
  have HA := hid (fun W (hW : Below w.heap.size w W) => time_any g p s o i pw W (hok.later hW (Nat.le_refl _)))
  have HB := hid (fun W (hW : Below w.heap.size w W) => rTime_any g p s o i pw W (hok.later hW (Nat.le_refl _)))
  clear hok
  obtain ⟨a1, a2, ha⟩ : ∃ x y, timeP g s o i pw = (x, y) := ⟨_, _, rfl⟩
  rw [ha] at HA HB
  clear ha
  dsimp only at HA HB
  have q4 : (a1 == a1) = true := by simp
  have q5 : (a2 == a2) = true := by simp
  have R := H0.out.rows
  have s0 := range_cell H0.out.ss (show (stL s)[0]? = some (.int .i64 s.pos) from rfl)
  have s1 := range_cell H0.out.ss (show (stL s)[1]? = some (.int .i64 s.charge) from rfl)
  have s2 := range_cell H0.out.ss (show (stL s)[2]? = some (.bool s.bolted) from rfl)
  have x0 := range_cell H0.out.xs (show [_, _, _][0]? = some (.int .i64 o) from rfl)
  have x1 := range_cell H0.out.xs (show [_, _, _][1]? = some (.int .i64 i) from rfl)
  have x2 := range_cell H0.out.xs (show [_, _, _][2]? = some (.bool pw) from rfl)
  go_enter Tryz.func4, Tryz.ntmps4
  go_wp2_with (refine wpList_load_mid rfl 25 _ rfl _ 0 rfl (gtL g p) _ (R) Tryz.underlying25 rfl (by kernel_rfl) ?_)
  with_reducible refine (HA.out _ H0.out.below).mono ?_
  rintro e w1 ⟨rfl, hb⟩
  have H1 := hid (H0.out.later hb)
  clear R s0 s1 s2 x0 x1 x2 hb
  have R := H1.out.rows
  have s0 := range_cell H1.out.ss (show (stL s)[0]? = some (.int .i64 s.pos) from rfl)
  have s1 := range_cell H1.out.ss (show (stL s)[1]? = some (.int .i64 s.charge) from rfl)
  have s2 := range_cell H1.out.ss (show (stL s)[2]? = some (.bool s.bolted) from rfl)
  have x0 := range_cell H1.out.xs (show [_, _, _][0]? = some (.int .i64 o) from rfl)
  have x1 := range_cell H1.out.xs (show [_, _, _][1]? = some (.int .i64 i) from rfl)
  have x2 := range_cell H1.out.xs (show [_, _, _][2]? = some (.bool pw) from rfl)
  go_wp2_with (refine wpList_load_mid rfl 25 _ rfl _ 0 rfl (gtL g p) _ (R) Tryz.underlying25 rfl (by kernel_rfl) ?_)
  with_reducible refine (HB.out _ H1.out.below).mono ?_
  rintro e w2 ⟨rfl, hb⟩
  have H2 := hid (H1.out.later hb)
  clear R s0 s1 s2 x0 x1 x2 hb
  go_wp2_with fail
  refine (awake_any _).mono ?_
  rintro e w9 ⟨rfl, hb9⟩
  go_wp2_with fail
  go_ret
  exact ⟨rfl, bthen H2.out.below hb9⟩
end Go.Proofs.YtdoklolinbmhpaaGreat
