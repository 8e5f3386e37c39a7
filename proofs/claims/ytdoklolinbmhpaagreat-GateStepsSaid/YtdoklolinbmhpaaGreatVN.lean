/- Gate, part VN: how far a gate is driven. -/
import Derived.Test.YtdoklolinbmhpaaGreatVL
set_option linter.all false
namespace Go.Proofs.YtdoklolinbmhpaaGreat
open Go.RowKit

theorem ret_mo {a b : Int} {q : Int × Int} (h : q = (a, b)) : Ending.returned (.agg #[.int .i64 a, .int .i64 b]) = Ending.returned (.agg #[.int .i64 q.1, .int .i64 q.2]) := by rw [h]

set_option maxRecDepth 100000 in
set_option maxHeartbeats 4000000 in
theorem driven_any (g : Gt) (p : GtP) (s : St) (t : Sp) (cm : Int) (w : World) (hg : GtGood g) (hs : 0 ≤ s.charge ∧ s.charge ≤ 100000) (hc : 0 ≤ cm ∧ cm ≤ 5000) :
    Calls Tryz.prog 132 #[.agg (mL g p s t).toArray, .int .i64 cm] w fun e w' => e = .returned (.agg #[.int .i64 (drivenF g s.charge cm).1, .int .i64 (drivenF g s.charge cm).2]) ∧ Below w.heap.size w w' := by
  have ub := hg.use
  have db := driven_bd hg hs hc
  have HE := hid (show drivenF g s.charge cm = ((if 0 < g.use then min cm (s.charge * 100 / g.use) else cm), upq ((if 0 < g.use then min cm (s.charge * 100 / g.use) else cm) * g.use) 100) from rfl)
  obtain ⟨c, hcc⟩ : ∃ c, (if 0 < g.use then min cm (s.charge * 100 / g.use) else cm) = c := ⟨_, rfl⟩
  rw [hcc] at HE
  have cb : 0 ≤ c ∧ c ≤ 5000 := by
    have := db.1; rw [HE.out] at this; simp only at this; omega
  have mb := mul_bd (a := c) (b := g.use) (A := 5000) (B := 100000) (by omega) (by omega) (by omega) (by omega)
  obtain ⟨N, hN⟩ : ∃ N, c * g.use = N := ⟨_, rfl⟩
  have w1 : IntKind.i64.wrap (c * g.use) = N := by rw [← hN]; exact IntWalk.i64_in _ (by omega)
  rw [hN] at HE mb
  have HN := hid (show Half N from ⟨by omega, by omega⟩)
  have HD := hid (fun W => roundUp_any N 100 W HN.out (by decide))
  generalize upq N 100 = u at *
  clear hN db
  go_enter Tryz.func132, Tryz.ntmps132
  have R := range_alloc w (mL g p s t) 74
  have bA : Below w.heap.size w (w.alloc (.cells (mL g p s t).toArray 74)) := (Below.refl _ _).alloc (Nat.le_refl _) _
  have S0 : w.heap.size < (w.alloc (.cells (mL g p s t).toArray 74)).heap.size := by simp
  have bB : Below (w.alloc (.cells (mL g p s t).toArray 74)).heap.size (w.alloc (.cells (mL g p s t).toArray 74)) ((w.alloc (.cells (mL g p s t).toArray 74)).alloc (.cells #[.int .i64 0, .int .i64 0] 107)) := (Below.refl _ _).alloc (Nat.le_refl _) _
  replace R := range_later R bB S0
  have c15 := range_cell R (show (mL g p s t)[15]? = some (.int .i64 g.use) from rfl)
  have c22 := range_cell R (show (mL g p s t)[22]? = some (.int .i64 s.charge) from rfl)
  by_cases hu : 0 < g.use
  · have w2 : IntKind.i64.wrap (s.charge * 100) = s.charge * 100 := IntWalk.i64_in _ (by omega)
    have hu0 : ¬ g.use = 0 := by omega
    rw [if_pos hu] at hcc
    obtain ⟨q, hq⟩ : ∃ q, (s.charge * 100).tdiv g.use = q := ⟨_, rfl⟩
    have hq2 : s.charge * 100 / g.use = q := by rw [← hq, Int.tdiv_eq_ediv_of_nonneg (by omega)]
    rw [hq2] at hcc
    have qb : 0 ≤ q ∧ q ≤ 10000000 := by rw [← hq2]; exact ⟨Int.ediv_nonneg (by omega) (by omega), Int.le_trans (Int.ediv_le_self _ (by omega)) (by omega)⟩
    have wq : IntKind.i64.wrap q = q := IntWalk.i64_in _ (by omega)
    clear hq2 hg
    go_wp2_with (go_at_call 59; (with_reducible refine (HD.out _).mono ?_); rintro e w' ⟨rfl, rfl⟩)
    refine bodyPost_ret (v := .agg #[.int .i64 c, .int .i64 u]) (by simp [results, Tryz.results132, go_sem, *]) rfl ⟨ret_mo HE.out, ?_⟩
    exact ((Below.refl _ _).alloc (Nat.le_refl _) _).alloc (by simp) _
  · rw [if_neg hu] at hcc
    subst hcc
    clear hg
    go_wp2_with (go_at_call 59; (with_reducible refine (HD.out _).mono ?_); rintro e w' ⟨rfl, rfl⟩)
    refine bodyPost_ret (v := .agg #[.int .i64 cm, .int .i64 u]) (by simp [results, Tryz.results132, go_sem, *]) rfl ⟨ret_mo HE.out, ?_⟩
    exact ((Below.refl _ _).alloc (Nat.le_refl _) _).alloc (by simp) _
end Go.Proofs.YtdoklolinbmhpaaGreat
