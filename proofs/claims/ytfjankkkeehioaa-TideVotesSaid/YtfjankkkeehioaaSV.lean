/- Tide, part SV: the mathematics of TideVotes. -/
import Derived.Test.YtfjankkkeehioaaSU
import Derived.Test.YtfjankkkeehioaaSP
set_option linter.all false
namespace Go.Proofs.Ytfjankkkeehioaa
open Go.RowKit Go.Shelf

/-- Those that are not with the most are at most so many as the others. -/
theorem others_cnt {gs : List Gau} {t now m x : Int} {V : List Voice} (hx : (cnt V x : Int) = m) : ∀ k, cnt (voiceL gs t now k) x + (othersL gs t now V m k).length ≤ k
  | 0 => by simp [voiceL, othersL, cnt]
  | k + 1 => by
    have ih := others_cnt (gs := gs) (t := t) (now := now) hx k
    rw [cnt_snoc]
    cases hb : hasB (gs.getD k default) t now x
    · rw [if_neg (by simp)]
      cases hw : withB (gs.getD k default) t now V m
      · rw [othersL_no hw, List.length_append, List.length_singleton]; omega
      · rw [othersL_yes hw]; omega
    · rw [if_pos rfl, othersL_yes (withB_iff.2 ⟨x, hx, hb⟩)]; omega
theorem others_len {gs : List Gau} {t now m : Int} (h : ManyOk (voiceL gs t now gs.length) m) : ((othersL gs t now (voiceL gs t now gs.length) m gs.length).length : Int) ≤ (gs.length : Int) - m := by
  rcases h.some with ⟨h1, h2⟩ | ⟨x, hx⟩
  · have := othersL_len gs t now (voiceL gs t now gs.length) m gs.length; omega
  · have := others_cnt (gs := gs) (t := t) (now := now) hx gs.length; omega
/-- Where Sound finds nothing. -/
theorem votes_none {V : List Voice} {n m : Int} {r : (Int × Int) × Int} (h : SoundRes V n r) (h0 : r.2 ≠ 0) (hm : ManyOk V m) (hn : 1 ≤ n) : r.2 = 9 ∧ m < n ∧ ∀ x, (cnt V x : Int) < n := by
  rcases h with ⟨rfl, h⟩ | ⟨h1, _⟩
  · refine ⟨rfl, ?_, fun x => by have := h x; omega⟩
    rcases hm.some with ⟨_, h2⟩ | ⟨x, hx⟩
    · omega
    · have := h x; omega
  · exact absurd h1 h0
/-- Where Sound finds a span. -/
theorem votes_some {V : List Voice} {n m : Int} {r : (Int × Int) × Int} (h : SoundRes V n r) (h0 : r.2 = 0) (hm : ManyOk V m) :
    n ≤ m ∧ n ≤ cnt V r.1.1 ∧ n ≤ cnt V r.1.2 ∧ ∀ x, (cnt V x : Int) ≤ m ∧ (n ≤ cnt V x → r.1.1 ≤ x ∧ x ≤ r.1.2) := by
  rcases h with ⟨rfl, _⟩ | ⟨_, h1, h2, h3⟩
  · cases h0
  · exact ⟨by have := hm.most r.1.1; omega, h1, h2, fun x => ⟨hm.most x, h3 x⟩⟩
/-- With one more wrong the span is not smaller. -/
theorem votes_more {V : List Voice} {n : Int} {r q : (Int × Int) × Int} (h : SoundRes V n r) (h0 : r.2 = 0) (k : SoundRes V (n - 1) q) : q.2 = 0 ∧ q.1.1 ≤ r.1.1 ∧ r.1.2 ≤ q.1.2 := by
  rcases h with ⟨rfl, _⟩ | ⟨_, h1, h2, _⟩
  · cases h0
  · rcases k with ⟨_, k1⟩ | ⟨k0, _, _, k3⟩
    · exact absurd (show n - 1 ≤ cnt V r.1.1 by omega) (k1 _)
    · exact ⟨k0, (k3 _ (by omega)).1, (k3 _ (by omega)).2⟩
end Go.Proofs.Ytfjankkkeehioaa
