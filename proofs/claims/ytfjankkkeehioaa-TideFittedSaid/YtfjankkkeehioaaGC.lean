/- Tide, part GC: a truth that is none: made. -/
import Derived.Test.YtfjankkkeehioaaGA
import Derived.Test.YtfjankkkeehioaaTSe
set_option linter.all false
namespace Go.Proofs.Ytfjankkkeehioaa
open Go.RowKit

set_option maxRecDepth 100000 in
set_option maxHeartbeats 4000000 in
theorem made_no (g : Gau) (p : GPos) (x : Tru) (q : TPos) (w : World) (hx : TruOk w q x) (hno : x.from_ < 0 ∨ (0 ≤ x.from_ ∧ 199800 < x.from_) ∨ ((0 ≤ x.from_ ∧ x.from_ ≤ 199800) ∧ 150 ≤ x.mv.length) ∨ ((0 ≤ x.from_ ∧ x.from_ ≤ 199800) ∧ x.mv.length < 150 ∧ x.level < -20000) ∨ ((0 ≤ x.from_ ∧ x.from_ ≤ 199800) ∧ x.mv.length < 150 ∧ -20000 ≤ x.level ∧ 20000 < x.level)) :
    Calls Try.prog 46 #[.agg #[.string g.name, .int .i64 g.err, .int .i64 g.rate, .slice p.da g.ds.length p.dc, .slice p.ra g.rs.length p.rc], .agg #[.int .i64 x.from_, .int .i64 x.level, .slice q.ma x.mv.length q.mc, .slice q.ga x.gp.length q.gc, .slice q.sa x.sh.length q.sc, .slice q.ea x.er.length q.ec]] w
      fun e w' => e = .returned (.tuple #[.slice none 0 0, .agg #[.string g.name, .int .i64 g.err, .int .i64 g.rate, .slice p.da g.ds.length p.dc, .slice p.ra g.rs.length p.rc], .bool false]) ∧ Below w.heap.size w w' := by
  clear hx
  rcases hno with h | ⟨h, h'⟩ | ⟨⟨h, h'⟩, h2⟩ | ⟨⟨h, h'⟩, h2, h3⟩ | ⟨⟨h, h'⟩, h2, h3, h4⟩
  all_goals
    first
      | (have h2i : (150 : Int) ≤ (x.mv.length : Int) := by omega)
      | (have h2i : (x.mv.length : Int) < 150 := by omega)
      | skip
    go_enter Try.func46, Try.ntmps46
    go_wp2_with fail
    go_region
    go_wp2_with fail
    refine bodyPost_ret (v := .tuple #[.slice none 0 0, .agg #[.string g.name, .int .i64 g.err, .int .i64 g.rate, .slice p.da g.ds.length p.dc, .slice p.ra g.rs.length p.rc], .bool false]) (by simp [results, Try.results46, go_sem]) rfl ⟨rfl, ?_⟩
    exact (((Below.refl _ _).alloc (Nat.le_refl _) _).alloc (by simp) _).alloc (by simp; omega) _ |>.drew
end Go.Proofs.Ytfjankkkeehioaa
