/- Gate, part VH: the errors of states and steps. -/
import Derived.Test.YtdoklolinbmhpaaGreatVG
set_option linter.all false
namespace Go.Proofs.YtdoklolinbmhpaaGreat
open Go.RowKit

set_option maxRecDepth 100000 in
set_option maxHeartbeats 1000000 in
theorem stateError_any (g : Gt) (p : GtP) (s : St) (w : World) :
    Calls Tryz.prog 37 #[.agg (gtL g p).toArray, .agg #[.int .i64 s.pos, .int .i64 s.charge, .bool s.bolted]] w fun e w' => e = .returned (.int .i64 (stE g s)) ∧ Below w.heap.size w w' := by
  obtain ⟨a, ha⟩ : ∃ a, inB s.pos 0 g.travel = a := ⟨_, rfl⟩
  obtain ⟨b, hb⟩ : ∃ b, inB s.charge 0 g.cap = b := ⟨_, rfl⟩
  have HE := hid (show stE g s = if a = false ∨ b = false then 7 else 0 by rw [← ha, ← hb]; rfl)
  have HA := hid ha; have HB := hid hb
  clear ha hb
  have k2 : (gtL g p)[2]? = some (.int .i64 g.travel) := rfl
  have k17 : (gtL g p)[17]? = some (.int .i64 g.cap) := rfl
  cases a
  · go_enter Tryz.func37, Tryz.ntmps37
    go_wp2_with ((with_reducible refine (in_val _ _ _ _ _ HA.out).mono ?_); rintro e w' ⟨rfl, rfl⟩)
    go_ret
    exact ⟨ret_iE (by rw [HE.out]; simp), ((Below.refl _ _).alloc (Nat.le_refl _) _).alloc (by simp) _⟩
  cases b
  all_goals
    go_enter Tryz.func37, Tryz.ntmps37
    go_wp2_with (first | ((with_reducible refine (in_val _ _ _ _ _ HA.out).mono ?_); rintro e w' ⟨rfl, rfl⟩) | ((with_reducible refine (in_val _ _ _ _ _ HB.out).mono ?_); rintro e w' ⟨rfl, rfl⟩))
    go_ret
    exact ⟨ret_iE (by rw [HE.out]; simp), ((Below.refl _ _).alloc (Nat.le_refl _) _).alloc (by simp) _⟩
theorem areLevelsV (b : Bool) (x y : Int) (w : World) (h : (inB x (-20000) 20000 && inB y (-20000) 20000) = b) :
    Calls Tryz.prog 75 #[.int .i64 x, .int .i64 y] w fun e w' => e = .returned (.bool b) ∧ w = w' := by rw [← h]; exact areLevels_any x y w
set_option maxRecDepth 100000 in
set_option maxHeartbeats 1000000 in
theorem orderError_any (t : Sp) (w : World) :
    Calls Tryz.prog 40 #[.agg #[.int .i64 t.order, .bool t.power, .int .i64 t.outer, .int .i64 t.inner]] w fun e w' => e = .returned (.int .i64 (ordE t)) ∧ Below w.heap.size w w' := by
  obtain ⟨a, ha⟩ : ∃ a, inB t.order 0 2 = a := ⟨_, rfl⟩
  obtain ⟨b, hb⟩ : ∃ b, (inB t.outer (-20000) 20000 && inB t.inner (-20000) 20000) = b := ⟨_, rfl⟩
  have HE := hid (show ordE t = if a = false then 2 else if b = false then 7 else 0 by
    rw [← ha, ← hb]; unfold ordE
    cases inB t.outer (-20000) 20000 <;> cases inB t.inner (-20000) 20000 <;> simp)
  have HA := hid ha; have HB := hid hb
  clear ha hb
  cases a
  · go_enter Tryz.func40, Tryz.ntmps40
    go_wp2_with ((with_reducible refine (in_val _ _ _ _ _ HA.out).mono ?_); rintro e w' ⟨rfl, rfl⟩)
    go_ret
    exact ⟨ret_iE (by rw [HE.out]; simp), (Below.refl _ _).alloc (Nat.le_refl _) _⟩
  cases b
  all_goals
    go_enter Tryz.func40, Tryz.ntmps40
    go_wp2_with (first | ((with_reducible refine (in_val _ _ _ _ _ HA.out).mono ?_); rintro e w' ⟨rfl, rfl⟩) | ((with_reducible refine (areLevelsV _ _ _ _ HB.out).mono ?_); rintro e w' ⟨rfl, rfl⟩))
    go_ret
    exact ⟨ret_iE (by rw [HE.out]; simp), (Below.refl _ _).alloc (Nat.le_refl _) _⟩
set_option maxRecDepth 100000 in
set_option maxHeartbeats 1000000 in
theorem stepError_any (g : Gt) (p : GtP) (s : St) (t : Sp) (w : World) :
    Calls Tryz.prog 27 #[.agg (gtL g p).toArray, .agg #[.int .i64 s.pos, .int .i64 s.charge, .bool s.bolted], .agg #[.int .i64 t.order, .bool t.power, .int .i64 t.outer, .int .i64 t.inner]] w fun e w' => e = .returned (.int .i64 (spE g s t)) ∧ Below w.heap.size w w' := by
  have HE := hid (show spE g s t = if stE g s ≠ 0 then stE g s else ordE t from rfl)
  go_enter Tryz.func27, Tryz.ntmps27
  have R := range_alloc w (gtL g p) 25
  have HR := hid (range_later (range_later R ((Below.refl _ _).alloc (Nat.le_refl _) (.cells #[.int .i64 s.pos, .int .i64 s.charge, .bool s.bolted] 27)) (by simp)) ((Below.refl _ _).alloc (Nat.le_refl _) (.cells #[.int .i64 t.order, .bool t.power, .int .i64 t.outer, .int .i64 t.inner] 35)) (by simp; omega))
  clear R
  go_wp2_with (refine wpList_load_mid rfl 25 _ rfl _ 0 rfl (gtL g p) _ HR.out Tryz.underlying25 rfl (by kernel_rfl) ?_)
  refine (stateError_any g p s _).mono ?_
  rintro e w' ⟨rfl, hb⟩
  have hs := hb.size
  simp only [World.size_alloc] at hs
  have hfin : Below w.heap.size w w' := ((((Below.refl w.heap.size w).alloc (Nat.le_refl _) _).alloc (by simp) _).alloc (by simp; omega) _).trans (hb.mono (by simp; omega))
  have c0 : w'.cell? ⟨w.heap.size + 1 + 1, 0, none⟩ = some (.int .i64 t.order) := (hb.cell (p := ⟨w.heap.size + 1 + 1, 0, none⟩) (by simp)).trans (by simp [go_sem])
  have c1 : w'.cell? ⟨w.heap.size + 1 + 1, 1, none⟩ = some (.bool t.power) := (hb.cell (p := ⟨w.heap.size + 1 + 1, 1, none⟩) (by simp)).trans (by simp [go_sem])
  have c2 : w'.cell? ⟨w.heap.size + 1 + 1, 2, none⟩ = some (.int .i64 t.outer) := (hb.cell (p := ⟨w.heap.size + 1 + 1, 2, none⟩) (by simp)).trans (by simp [go_sem])
  have c3 : w'.cell? ⟨w.heap.size + 1 + 1, 3, none⟩ = some (.int .i64 t.inner) := (hb.cell (p := ⟨w.heap.size + 1 + 1, 3, none⟩) (by simp)).trans (by simp [go_sem])
  clear HR hb
  generalize stE g s = x at *
  by_cases hx : x = 0
  · have q : (x != 0) = false := by simp [hx]
    have HX := hid hx
    clear hx
    go_wp2_with fail
    refine (orderError_any t _).mono ?_
    rintro e w2 ⟨rfl, hb2⟩
    go_wp2_with fail
    go_ret
    exact ⟨ret_iE (by rw [HE.out, if_neg (by simp [HX.out])]), hfin.trans (hb2.mono (by omega))⟩
  · have q : (x != 0) = true := by simp [hx]
    have HX := hid hx
    clear hx
    go_wp2_with fail
    go_ret
    exact ⟨ret_iE (by rw [HE.out, if_pos HX.out]), hfin⟩
end Go.Proofs.YtdoklolinbmhpaaGreat
