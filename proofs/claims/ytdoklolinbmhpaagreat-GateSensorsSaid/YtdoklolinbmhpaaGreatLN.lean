/- Gate, part LN: the walk of GateSensors. -/
import Derived.Test.YtdoklolinbmhpaaGreatWZ
import Derived.Test.YtdoklolinbmhpaaGreatCK
set_option linter.all false
namespace Go.Proofs.YtdoklolinbmhpaaGreat
open Go.RowKit

/-- A gate, its state and what is read, in memory. -/
structure LnW (w : World) (g : Gt) (p : GtP) (s : St) (ra : Option Addr) (m mc : Nat) (on : Bool) (x : World) : Prop where
  below : Below w.heap.size w x
  lt : w.heap.size + 1 + 1 < x.heap.size
  rows : x.rangeAt w.heap.size 0 (gtL g p)
  ss : x.rangeAt (w.heap.size + 1) 0 (stL s)
  xs : x.rangeAt (w.heap.size + 1 + 1) 0 [.slice ra m mc, .bool on]
theorem LnW.later {w x y : World} {g : Gt} {p : GtP} {s : St} {ra : Option Addr} {m mc : Nat} {on : Bool} (h : LnW w g p s ra m mc on x) (hb : Below x.heap.size x y) : LnW w g p s ra m mc on y := by
  have hl := h.lt
  exact ⟨bthen h.below hb, Nat.lt_of_lt_of_le hl hb.size, range_later h.rows hb (by omega), range_later h.ss hb (by omega), range_later h.xs hb (by omega)⟩
theorem LnW.start (w : World) (g : Gt) (p : GtP) (s : St) (ra : Option Addr) (m mc : Nat) (on : Bool) : LnW w g p s ra m mc on (((w.alloc (.cells (gtL g p).toArray 25)).alloc (.cells #[.int .i64 s.pos, .int .i64 s.charge, .bool s.bolted] 27)).alloc (.cells #[.slice ra m mc, .bool on] 48)) := by
  have H := DrW.start w g p s
  have sz : ((w.alloc (.cells (gtL g p).toArray 25)).alloc (.cells #[.int .i64 s.pos, .int .i64 s.charge, .bool s.bolted] 27)).heap.size = w.heap.size + 1 + 1 := by simp
  generalize World.alloc (World.alloc w _) _ = X at *
  obtain ⟨h1, h2, h3⟩ := one_box (w := X) (cs := [.slice ra m mc, .bool on]) (T := 48) (Below.refl _ _)
  rw [sz] at h1 h2
  have hl := H.lt
  exact ⟨bthen H.below h3, h2, range_later H.rows h3 (by omega), range_later H.ss h3 (by omega), h1⟩
theorem cells2 {x y : World} {b : Nat} {a c : Value} (h : x.rangeAt b 0 [a, c]) (hl : b < x.heap.size) (hb : Below x.heap.size x y) : y.rangeAt b 0 [a, c] := range_later h hb hl
set_option maxRecDepth 100000 in
set_option maxHeartbeats 8000000 in
theorem lawSensors_any (g : Gt) (p : GtP) (s : St) (on : Bool) (ra : Option Addr) (rs : List Int) (mc m : Nat) (w : World) (hm : rs.length = m) (hm8 : m ≤ 140737488355328) (hok : GtOk w p g) (hra : IntsAt w ra rs) :
    Calls Tryz.prog 5 #[.agg (gtL g p).toArray, .agg #[.int .i64 s.pos, .int .i64 s.charge, .bool s.bolted], .agg #[.slice ra m mc, .bool on]] w fun e w' => e = .returned (.bool true) ∧ Below w.heap.size w w' := by
  have H0 := hid (LnW.start w g p s ra m mc on)
  have HA := hid (fun W (hW : Below w.heap.size w W) => where_any g p ra rs mc m W hm hm8 (hok.later hW (Nat.le_refl _)) (hra.later hW (Nat.le_refl _)))
  have HB := hid (fun W (hW : Below w.heap.size w W) => rWhere_any g p ra rs mc m W hm (hok.later hW (Nat.le_refl _)) (hra.later hW (Nat.le_refl _)))
  have HC := hid (fun W (hW : Below w.heap.size w W) => sure_any g p ra rs mc m W hm hm8 (hok.later hW (Nat.le_refl _)) (hra.later hW (Nat.le_refl _)))
  have HD := hid (fun W (hW : Below w.heap.size w W) => rSure_any g p ra rs mc m W hm (hok.later hW (Nat.le_refl _)) (hra.later hW (Nat.le_refl _)))
  have HE := hid (fun W (hW : Below w.heap.size w W) => bolt_any g p s on ra rs mc m W hm hm8 (hok.later hW (Nat.le_refl _)) (hra.later hW (Nat.le_refl _)))
  have HF := hid (fun W (hW : Below w.heap.size w W) => rBolt_any g p s on ra rs mc m W hm (hok.later hW (Nat.le_refl _)) (hra.later hW (Nat.le_refl _)))
  clear hok hra hm hm8
  obtain ⟨lo, hi, e1, h1⟩ : ∃ a b c, whereP g rs = ((a, b), c) := ⟨_, _, _, rfl⟩
  obtain ⟨en, e2, h2⟩ : ∃ a b, sureP g rs = (a, b) := ⟨_, _, rfl⟩
  obtain ⟨⟨up, uc, ub⟩, e3, h3⟩ : ∃ a b, boltP g s on rs = (a, b) := ⟨_, _, rfl⟩
  rw [h1] at HA HB
  rw [h2] at HC HD
  rw [h3] at HE HF
  clear h1 h2 h3
  dsimp only at HA HB HC HD HE HF
  have q1 : (lo != lo) = false := by simp
  have q2 : (hi != hi) = false := by simp
  have q3 : (e1 != e1) = false := by simp
  have q4 : (en != en) = false := by simp
  have q5 : (e2 != e2) = false := by simp
  have q6 : (e3 == e3) = true := by simp
  go_enter Tryz.func5, Tryz.ntmps5
  go_upto_region 1 with fail
  generalize World.alloc (World.alloc (World.alloc w _) _) _ = W0 at *
  have R := H0.out.rows
  have x0 := range_cell H0.out.xs (show [_, _][0]? = some (Value.slice ra m mc) from rfl)
  go_wp2_with (refine wpList_load_mid rfl 25 _ rfl _ 0 rfl (gtL g p) _ (R) Tryz.underlying25 rfl (by kernel_rfl) ?_)
  with_reducible refine (HA.out _ H0.out.below).mono ?_
  rintro e w1 ⟨rfl, hb⟩
  obtain ⟨P1, l1, B1⟩ := one_box (w := w1) (cs := [.int .i64 lo, .int .i64 hi]) (T := 50) (Below.refl _ _)
  have H1 := hid ((H0.out.later hb).later B1)
  clear R x0 hb
  go_upto_region 2 with fail
  generalize World.alloc w1 _ = X1 at *
  clear B1
  have R := H1.out.rows
  have x0 := range_cell H1.out.xs (show [_, _][0]? = some (Value.slice ra m mc) from rfl)
  go_wp2_with (refine wpList_load_mid rfl 25 _ rfl _ 0 rfl (gtL g p) _ (R) Tryz.underlying25 rfl (by kernel_rfl) ?_)
  with_reducible refine (HB.out _ H1.out.below).mono ?_
  rintro e w2 ⟨rfl, hb⟩
  have l1' : w1.heap.size < w2.heap.size := Nat.lt_of_lt_of_le l1 hb.size
  have P1' := range_later P1 hb l1
  obtain ⟨P2, l2, B2⟩ := one_box (w := w2) (cs := [.int .i64 lo, .int .i64 hi]) (T := 50) (Below.refl _ _)
  have H2 := hid ((H1.out.later hb).later B2)
  have P1x := range_later P1' B2 l1'
  have a0 := range_cell P1x (show [_, _][0]? = some (Value.int .i64 lo) from rfl)
  have a1 := range_cell P1x (show [_, _][1]? = some (Value.int .i64 hi) from rfl)
  have b0 := range_cell P2 (show [_, _][0]? = some (Value.int .i64 lo) from rfl)
  have b1 := range_cell P2 (show [_, _][1]? = some (Value.int .i64 hi) from rfl)
  clear P1 P1' P1x P2
  clear R x0 hb
  go_upto_region 3 with fail
  generalize World.alloc w2 _ = X2 at *
  clear B2
  go_upto_region 5 with fail
  clear a0 a1 b0 b1
  have R := H2.out.rows
  have x0 := range_cell H2.out.xs (show [_, _][0]? = some (Value.slice ra m mc) from rfl)
  go_wp2_with (refine wpList_load_mid rfl 25 _ rfl _ 0 rfl (gtL g p) _ (R) Tryz.underlying25 rfl (by kernel_rfl) ?_)
  with_reducible refine (HC.out _ H2.out.below).mono ?_
  rintro e w3 ⟨rfl, hb⟩
  have H3 := hid (H2.out.later hb)
  clear R x0 hb
  have R := H3.out.rows
  have x0 := range_cell H3.out.xs (show [_, _][0]? = some (Value.slice ra m mc) from rfl)
  go_wp2_with (refine wpList_load_mid rfl 25 _ rfl _ 0 rfl (gtL g p) _ (R) Tryz.underlying25 rfl (by kernel_rfl) ?_)
  with_reducible refine (HD.out _ H3.out.below).mono ?_
  rintro e w4 ⟨rfl, hb⟩
  have H4 := hid (H3.out.later hb)
  clear R x0 hb
  go_upto_region 9 with fail
  have R := H4.out.rows
  have x0 := range_cell H4.out.xs (show [_, _][0]? = some (Value.slice ra m mc) from rfl)
  have x1 := range_cell H4.out.xs (show [_, _][1]? = some (Value.bool on) from rfl)
  have s0 := range_cell H4.out.ss (show (stL s)[0]? = some (.int .i64 s.pos) from rfl)
  have s1 := range_cell H4.out.ss (show (stL s)[1]? = some (.int .i64 s.charge) from rfl)
  have s2 := range_cell H4.out.ss (show (stL s)[2]? = some (.bool s.bolted) from rfl)
  go_wp2_with (refine wpList_load_mid rfl 25 _ rfl _ 0 rfl (gtL g p) _ (R) Tryz.underlying25 rfl (by kernel_rfl) ?_)
  with_reducible refine (HE.out _ H4.out.below).mono ?_
  rintro e w5 ⟨rfl, hb⟩
  obtain ⟨P1, l3, B1⟩ := one_box (w := w5) (cs := [.int .i64 up, .int .i64 uc, .bool ub]) (T := 27) (Below.refl _ _)
  have H5 := hid ((H4.out.later hb).later B1)
  clear x1 s0 s1 s2
  clear R x0 hb
  go_upto_region 10 with fail
  generalize World.alloc w5 _ = X5 at *
  clear B1
  have R := H5.out.rows
  have x0 := range_cell H5.out.xs (show [_, _][0]? = some (Value.slice ra m mc) from rfl)
  have x1 := range_cell H5.out.xs (show [_, _][1]? = some (Value.bool on) from rfl)
  have s0 := range_cell H5.out.ss (show (stL s)[0]? = some (.int .i64 s.pos) from rfl)
  have s1 := range_cell H5.out.ss (show (stL s)[1]? = some (.int .i64 s.charge) from rfl)
  have s2 := range_cell H5.out.ss (show (stL s)[2]? = some (.bool s.bolted) from rfl)
  go_wp2_with (refine wpList_load_mid rfl 25 _ rfl _ 0 rfl (gtL g p) _ (R) Tryz.underlying25 rfl (by kernel_rfl) ?_)
  with_reducible refine (HF.out _ H5.out.below).mono ?_
  rintro e w6 ⟨rfl, hb⟩
  have l3' : w5.heap.size < w6.heap.size := Nat.lt_of_lt_of_le l3 hb.size
  have P1' := range_later P1 hb l3
  obtain ⟨P2, l4, B2⟩ := one_box (w := w6) (cs := [.int .i64 up, .int .i64 uc, .bool ub]) (T := 27) (Below.refl _ _)
  have H6 := hid ((H5.out.later hb).later B2)
  have P1x := range_later P1' B2 l3'
  have a0 := range_cell P1x (show [_, _, _][0]? = some (Value.int .i64 up) from rfl)
  have a1 := range_cell P1x (show [_, _, _][1]? = some (Value.int .i64 uc) from rfl)
  have a2 := range_cell P1x (show [_, _, _][2]? = some (Value.bool ub) from rfl)
  have b0 := range_cell P2 (show [_, _, _][0]? = some (Value.int .i64 up) from rfl)
  have b1 := range_cell P2 (show [_, _, _][1]? = some (Value.int .i64 uc) from rfl)
  have b2 := range_cell P2 (show [_, _, _][2]? = some (Value.bool ub) from rfl)
  clear P1 P1' P1x P2 x1 s0 s1 s2
  clear R x0 hb
  go_upto_region 11 with fail
  generalize World.alloc w6 _ = X6 at *
  clear B2
  go_wp2_with fail
  refine (awake_any _).mono ?_
  rintro e w9 ⟨rfl, hb9⟩
  go_wp2_with fail
  go_ret
  exact ⟨rfl, bthen H6.out.below hb9⟩
end Go.Proofs.YtdoklolinbmhpaaGreat
