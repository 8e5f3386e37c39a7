/- Tide, part Q: what more readings make known. -/
import Derived.Test.YtblneiegekdnjaaTP
set_option linter.all false
namespace Go.Proofs.Ytblneiegekdnjaa
open Go.RowKit

theorem sayFold_mono (g : Gau) (t : Int) (l : List Rdg) : ∀ s : Int × Int, s.1 ≤ (l.foldl (sayStep g t) s).1 ∧ (l.foldl (sayStep g t) s).2 ≤ s.2 := by
  induction l with
  | nil => intro s; simp
  | cons r l ih =>
    intro s
    have h := ih (sayStep g t s r)
    have h1 : s.1 ≤ (sayStep g t s r).1 := by unfold sayStep; omega
    have h2 : (sayStep g t s r).2 ≤ s.2 := by unfold sayStep; omega
    simp only [List.foldl_cons]
    exact ⟨Int.le_trans h1 h.1, Int.le_trans h.2 h2⟩
theorem takeWhile_more {l : List Rdg} {a b : Int} (h : a ≤ b) : ∃ s, (l.takeWhile fun r => decide (r.tick ≤ b)) = (l.takeWhile fun r => decide (r.tick ≤ a)) ++ s := by
  induction l with
  | nil => exact ⟨[], by simp⟩
  | cons r l ih =>
    by_cases h1 : r.tick ≤ a
    · have h2 : r.tick ≤ b := by omega
      obtain ⟨s, hs⟩ := ih
      exact ⟨s, by simp [List.takeWhile_cons, h1, h2, hs]⟩
    · exact ⟨_, by simp [List.takeWhile_cons, h1]; rfl⟩
theorem knows_fold (g : Gau) (t : Int) {a b : Int} (h : a ≤ b) :
    let A := sayFold g t (g.rs.takeWhile fun r => decide (r.tick ≤ a)); let B := sayFold g t (g.rs.takeWhile fun r => decide (r.tick ≤ b))
    A.1 ≤ B.1 ∧ B.2 ≤ A.2 ∧ -20000 ≤ A.1 ∧ A.2 ≤ 20000 := by
  obtain ⟨s, hs⟩ := takeWhile_more (l := g.rs) h
  have h0 := sayFold_mono g t (g.rs.takeWhile fun r => decide (r.tick ≤ a)) (-20000, 20000)
  have h1 := sayFold_mono g t s (sayFold g t (g.rs.takeWhile fun r => decide (r.tick ≤ a)))
  simp only [hs]
  simp only [sayFold, List.foldl_append] at *
  exact ⟨h1.1, h1.2, h0.1, h0.2⟩
theorem sayOf_ok {g : Gau} {t : Int} {l : List Rdg} (h : (sayOf g t l).2 = 0) : l ≠ [] ∧ (sayFold g t l).1 ≤ (sayFold g t l).2 ∧ sayOf g t l = (sayFold g t l, 0) := by
  unfold sayOf at h ⊢
  split at h
  · exact absurd h (by decide)
  rename_i h1
  split at h
  · exact absurd h (by decide)
  rename_i h2
  rw [if_neg h1, if_neg h2]
  exact ⟨h1, by omega, rfl⟩
theorem sayOf_down {g : Gau} {t : Int} {l : List Rdg} (h : (sayOf g t l).2 = 9) : l ≠ [] ∧ (sayFold g t l).2 < (sayFold g t l).1 := by
  unfold sayOf at h
  split at h
  · exact absurd h (by decide)
  rename_i h1
  split at h
  · rename_i h2; exact ⟨h1, h2⟩
  · simp at h
theorem saysP_ok {g : Gau} {t now : Int} (h : (saysP g t now).2 = 0) : (gaugeP g).2.2 = 0 ∧ inB t 0 200000 = true ∧ inB now 0 200000 = true ∧ saysP g t now = sayP g t now := by
  unfold saysP at h ⊢
  split at h
  · rename_i h1; exact absurd h h1
  rename_i h1
  split at h
  · exact absurd h (by decide)
  rename_i h2
  rw [if_neg h1, if_neg h2]
  simp only [Bool.not_eq_false, Bool.and_eq_true] at h2
  exact ⟨Decidable.not_not.1 h1, h2.1, h2.2, rfl⟩
theorem knowsP (g : Gau) (t : Int) {now then_ : Int} (h : now ≤ then_) (h2 : (saysP g t then_).2 = 0) :
    ((saysP g t now).2 = 0 → (saysP g t now).1.1 ≤ (saysP g t then_).1.1 ∧ (saysP g t then_).1.2 ≤ (saysP g t now).1.2 ∧ (saysP g t then_).1.1 ≤ (saysP g t then_).1.2 ∧ -20000 ≤ (saysP g t now).1.1 ∧ (saysP g t now).1.2 ≤ 20000)
    ∧ (saysP g t now).2 ≠ 9 := by
  obtain ⟨hg, ht, hn, e2⟩ := saysP_ok h2
  rw [e2] at h2 ⊢
  obtain ⟨hne, hle, e3⟩ := sayOf_ok h2
  have hk := knows_fold g t h
  simp only at hk
  refine ⟨fun h1 => ?_, fun h1 => ?_⟩
  · obtain ⟨_, _, _, e4⟩ := saysP_ok h1
    rw [e4] at h1 ⊢
    obtain ⟨_, _, e5⟩ := sayOf_ok h1
    unfold sayP at *
    rw [e3, e5]
    exact ⟨hk.1, hk.2.1, hle, hk.2.2.1, hk.2.2.2⟩
  · unfold saysP at h1
    rw [if_neg (by simp [hg])] at h1
    split at h1
    · exact absurd h1 (by decide)
    · obtain ⟨_, hlt⟩ := sayOf_down h1
      omega

/-! ### The law's helper, and the law -/

def witB (a b c d : Int) : Bool := decide (c ≤ a ∧ b ≤ d)
theorem witB_iff {a b c d : Int} : witB a b c d = true ↔ c ≤ a ∧ b ≤ d := by simp [witB]
theorem within_any (a b c d : Int) (w : World) :
    Calls Try.prog 45 #[.agg #[.int .i64 a, .int .i64 b], .agg #[.int .i64 c, .int .i64 d]] w fun e w' => e = .returned (.bool (witB a b c d)) ∧ Below w.heap.size w w' := by
  by_cases h1 : c ≤ a <;> by_cases h2 : b ≤ d
  all_goals
    have hh : witB a b c d = decide (c ≤ a ∧ b ≤ d) := rfl
    simp only [h1, h2, and_self, and_true, and_false, decide_true, decide_false] at hh
    have H := hid hh; clear hh
    go_enter Try.func45, Try.ntmps45
    go_wp2
    go_ret
    exact ⟨ret_bool (by rw [H.out]), by repeat (first | exact Below.refl _ _ | refine Below.alloc ?_ (by simp <;> omega) _ | refine Below.drew ?_ | refine below_drewN ?_ _)⟩

theorem saysVal (g : Gau) (p : GPos) (t now : Int) (s : (Int × Int) × Int) (w : World) (hok : GauOk w p g) (hs : saysP g t now = s) :
    Calls Try.prog 30 #[.agg #[.string g.name, .int .i64 g.err, .int .i64 g.rate, .slice p.da g.ds.length p.dc, .slice p.ra g.rs.length p.rc], .int .i64 t, .int .i64 now] w
      fun e w' => e = .returned (.tuple #[.agg #[.int .i64 s.1.1, .int .i64 s.1.2], .int .i64 s.2]) ∧ Below w.heap.size w w' := by
  rw [← hs]; exact saysFn_any g p t now w hok
theorem within_true (a b c d : Int) (w : World) (h : c ≤ a ∧ b ≤ d) :
    Calls Try.prog 45 #[.agg #[.int .i64 a, .int .i64 b], .agg #[.int .i64 c, .int .i64 d]] w fun e w' => e = .returned (.bool true) ∧ Below w.heap.size w w' := by
  have := within_any a b c d w
  rwa [witB_iff.2 h] at this

end Go.Proofs.Ytblneiegekdnjaa
