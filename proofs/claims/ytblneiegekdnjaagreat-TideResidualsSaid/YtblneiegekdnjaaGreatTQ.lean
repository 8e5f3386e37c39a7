/- Tide, part Q: what more readings make known. -/
import Derived.Test.YtblneiegekdnjaaGreatTP
set_option linter.all false
namespace Go.Proofs.YtblneiegekdnjaaGreat
open Go.RowKit

theorem sayFold_mono (g : Gau) (t : Int) (l : List Rdg) : ∀ s : Int × Int, s.1 ≤ (l.foldl (sayStep g t) s).1 ∧ (l.foldl (sayStep g t) s).2 ≤ s.2 := by
  induction l with
  | nil => intro s; simp
  | cons r l ih =>
    intro s
    have h := ih (sayStep g t s r)
    have h1 : s.1 ≤ (sayStep g t s r).1 := by unfold sayStep; omega
    have h2 : (sayStep g t s r).2 ≤ s.2 := by unfold sayStep; omega
    simp only [List.foldl_cons]
    exact ⟨Int.le_trans h1 h.1, Int.le_trans h.2 h2⟩
theorem takeWhile_more {l : List Rdg} {a b : Int} (h : a ≤ b) : ∃ s, (l.takeWhile fun r => decide (r.tick ≤ b)) = (l.takeWhile fun r => decide (r.tick ≤ a)) ++ s := by
  induction l with
  | nil => exact ⟨[], by simp⟩
  | cons r l ih =>
    by_cases h1 : r.tick ≤ a
    · have h2 : r.tick ≤ b := by omega
      obtain ⟨s, hs⟩ := ih
      exact ⟨s, by simp [List.takeWhile_cons, h1, h2, hs]⟩
    · exact ⟨_, by simp [List.takeWhile_cons, h1]; rfl⟩
theorem knows_fold (g : Gau) (t : Int) {a b : Int} (h : a ≤ b) :
    let A := sayFold g t (g.rs.takeWhile fun r => decide (r.tick ≤ a)); let B := sayFold g t (g.rs.takeWhile fun r => decide (r.tick ≤ b))
    A.1 ≤ B.1 ∧ B.2 ≤ A.2 ∧ -20000 ≤ A.1 ∧ A.2 ≤ 20000 := by
  obtain ⟨s, hs⟩ := takeWhile_more (l := g.rs) h
  have h0 := sayFold_mono g t (g.rs.takeWhile fun r => decide (r.tick ≤ a)) (-20000, 20000)
  have h1 := sayFold_mono g t s (sayFold g t (g.rs.takeWhile fun r => decide (r.tick ≤ a)))
  simp only [hs]
  simp only [sayFold, List.foldl_append] at *
  exact ⟨h1.1, h1.2, h0.1, h0.2⟩
theorem sayOf_ok {g : Gau} {t : Int} {l : List Rdg} (h : (sayOf g t l).2 = 0) : l ≠ [] ∧ (sayFold g t l).1 ≤ (sayFold g t l).2 ∧ sayOf g t l = (sayFold g t l, 0) := by
  unfold sayOf at h ⊢
  split at h
  · exact absurd h (by decide)
  rename_i h1
  split at h
  · exact absurd h (by decide)
  rename_i h2
  rw [if_neg h1, if_neg h2]
  exact ⟨h1, by omega, rfl⟩
theorem sayOf_down {g : Gau} {t : Int} {l : List Rdg} (h : (sayOf g t l).2 = 9) : l ≠ [] ∧ (sayFold g t l).2 < (sayFold g t l).1 := by
  unfold sayOf at h
  split at h
  · exact absurd h (by decide)
  rename_i h1
  split at h
  · rename_i h2; exact ⟨h1, h2⟩
  · simp at h
theorem saysP_ok {g : Gau} {t now : Int} (h : (saysP g t now).2 = 0) : (gaugeP g).2.2 = 0 ∧ inB t 0 200000 = true ∧ inB now 0 200000 = true ∧ saysP g t now = sayP g t now := by
  unfold saysP at h ⊢
  split at h
  · rename_i h1; exact absurd h h1
  rename_i h1
  split at h
  · exact absurd h (by decide)
  rename_i h2
  rw [if_neg h1, if_neg h2]
  simp only [Bool.not_eq_false, Bool.and_eq_true] at h2
  exact ⟨Decidable.not_not.1 h1, h2.1, h2.2, rfl⟩
theorem knowsP (g : Gau) (t : Int) {now then_ : Int} (h : now ≤ then_) (h2 : (saysP g t then_).2 = 0) :
    ((saysP g t now).2 = 0 → (saysP g t now).1.1 ≤ (saysP g t then_).1.1 ∧ (saysP g t then_).1.2 ≤ (saysP g t now).1.2 ∧ (saysP g t then_).1.1 ≤ (saysP g t then_).1.2 ∧ -20000 ≤ (saysP g t now).1.1 ∧ (saysP g t now).1.2 ≤ 20000)
    ∧ (saysP g t now).2 ≠ 9 := by
  obtain ⟨hg, ht, hn, e2⟩ := saysP_ok h2
  rw [e2] at h2 ⊢
  obtain ⟨hne, hle, e3⟩ := sayOf_ok h2
  have hk := knows_fold g t h
  simp only at hk
  refine ⟨fun h1 => ?_, fun h1 => ?_⟩
  · obtain ⟨_, _, _, e4⟩ := saysP_ok h1
    rw [e4] at h1 ⊢
    obtain ⟨_, _, e5⟩ := sayOf_ok h1
    unfold sayP at *
    rw [e3, e5]
    exact ⟨hk.1, hk.2.1, hle, hk.2.2.1, hk.2.2.2⟩
  · unfold saysP at h1
    rw [if_neg (by simp [hg])] at h1
    split at h1
    · exact absurd h1 (by decide)
    · obtain ⟨_, hlt⟩ := sayOf_down h1
      omega

/-! ### The law's helper, and the law -/

end Go.Proofs.YtblneiegekdnjaaGreat
