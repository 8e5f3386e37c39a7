/- Tide, part Q: what more readings make known. -/
import Derived.Test.YtcbapmjjbdmciaaTP
namespace Go.Proofs.Ytcbapmjjbdmciaa
open Go.RowKit

theorem sayFold_mono (g : Gau) (t : Int) (l : List Rdg) : ∀ s : Int × Int, s.1 ≤ (l.foldl (sayStep g t) s).1 ∧ (l.foldl (sayStep g t) s).2 ≤ s.2 := by
  induction l with
  | nil => intro s; simp
  | cons r l ih =>
    intro s
    have h := ih (sayStep g t s r)
    have h1 : s.1 ≤ (sayStep g t s r).1 := by unfold sayStep; omega
    have h2 : (sayStep g t s r).2 ≤ s.2 := by unfold sayStep; omega
    simp only [List.foldl_cons]
    exact ⟨Int.le_trans h1 h.1, Int.le_trans h.2 h2⟩
theorem takeWhile_more {l : List Rdg} {a b : Int} (h : a ≤ b) : ∃ s, (l.takeWhile fun r => decide (r.tick ≤ b)) = (l.takeWhile fun r => decide (r.tick ≤ a)) ++ s := by
  induction l with
  | nil => exact ⟨[], by simp⟩
  | cons r l ih =>
    by_cases h1 : r.tick ≤ a
    · have h2 : r.tick ≤ b := by omega
      obtain ⟨s, hs⟩ := ih
      exact ⟨s, by simp [List.takeWhile_cons, h1, h2, hs]⟩
    · exact ⟨_, by simp [List.takeWhile_cons, h1]; rfl⟩
theorem knows_fold (g : Gau) (t : Int) {a b : Int} (h : a ≤ b) :
    let A := sayFold g t (g.rs.takeWhile fun r => decide (r.tick ≤ a)); let B := sayFold g t (g.rs.takeWhile fun r => decide (r.tick ≤ b))
    A.1 ≤ B.1 ∧ B.2 ≤ A.2 ∧ -20000 ≤ A.1 ∧ A.2 ≤ 20000 := by
  obtain ⟨s, hs⟩ := takeWhile_more (l := g.rs) h
  have h0 := sayFold_mono g t (g.rs.takeWhile fun r => decide (r.tick ≤ a)) (-20000, 20000)
  have h1 := sayFold_mono g t s (sayFold g t (g.rs.takeWhile fun r => decide (r.tick ≤ a)))
  simp only [hs]
  simp only [sayFold, List.foldl_append] at *
  exact ⟨h1.1, h1.2, h0.1, h0.2⟩
theorem sayOf_ok {g : Gau} {t : Int} {l : List Rdg} (h : (sayOf g t l).2 = 0) : l ≠ [] ∧ (sayFold g t l).1 ≤ (sayFold g t l).2 ∧ sayOf g t l = (sayFold g t l, 0) := by
  unfold sayOf at h ⊢
  split at h
  · exact absurd h (by decide)
  rename_i h1
  split at h
  · exact absurd h (by decide)
  rename_i h2
  rw [if_neg h1, if_neg h2]
  exact ⟨h1, by omega, rfl⟩
theorem sayOf_down {g : Gau} {t : Int} {l : List Rdg} (h : (sayOf g t l).2 = 9) : l ≠ [] ∧ (sayFold g t l).2 < (sayFold g t l).1 := by
  unfold sayOf at h
  split at h
  · exact absurd h (by decide)
  rename_i h1
  split at h
  · rename_i h2; exact ⟨h1, h2⟩
  · simp at h
theorem saysP_ok {g : Gau} {t now : Int} (h : (saysP g t now).2 = 0) : (gaugeP g).2.2 = 0 ∧ inB t 0 200000 = true ∧ inB now 0 200000 = true ∧ saysP g t now = sayP g t now := by
  unfold saysP at h ⊢
  split at h
  · rename_i h1; exact absurd h h1
  rename_i h1
  split at h
  · exact absurd h (by decide)
  rename_i h2
  rw [if_neg h1, if_neg h2]
  simp only [Bool.not_eq_false, Bool.and_eq_true] at h2
  exact ⟨Decidable.not_not.1 h1, h2.1, h2.2, rfl⟩
theorem knowsP (g : Gau) (t : Int) {now then_ : Int} (h : now ≤ then_) (h2 : (saysP g t then_).2 = 0) :
    ((saysP g t now).2 = 0 → (saysP g t now).1.1 ≤ (saysP g t then_).1.1 ∧ (saysP g t then_).1.2 ≤ (saysP g t now).1.2 ∧ (saysP g t then_).1.1 ≤ (saysP g t then_).1.2 ∧ -20000 ≤ (saysP g t now).1.1 ∧ (saysP g t now).1.2 ≤ 20000)
    ∧ (saysP g t now).2 ≠ 9 := by
  obtain ⟨hg, ht, hn, e2⟩ := saysP_ok h2
  rw [e2] at h2 ⊢
  obtain ⟨hne, hle, e3⟩ := sayOf_ok h2
  have hk := knows_fold g t h
  simp only at hk
  refine ⟨fun h1 => ?_, fun h1 => ?_⟩
  · obtain ⟨_, _, _, e4⟩ := saysP_ok h1
    rw [e4] at h1 ⊢
    obtain ⟨_, _, e5⟩ := sayOf_ok h1
    unfold sayP at *
    rw [e3, e5]
    exact ⟨hk.1, hk.2.1, hle, hk.2.2.1, hk.2.2.2⟩
  · unfold saysP at h1
    rw [if_neg (by simp [hg])] at h1
    split at h1
    · exact absurd h1 (by decide)
    · obtain ⟨_, hlt⟩ := sayOf_down h1
      omega

/-! ### The law's helper, and the law -/

def witB (a b c d : Int) : Bool := decide (c ≤ a ∧ b ≤ d)
theorem witB_iff {a b c d : Int} : witB a b c d = true ↔ c ≤ a ∧ b ≤ d := by simp [witB]
theorem within_any (a b c d : Int) (w : World) :
    Calls Try.prog 45 #[.agg #[.int .i64 a, .int .i64 b], .agg #[.int .i64 c, .int .i64 d]] w fun e w' => e = .returned (.bool (witB a b c d)) ∧ Below w.heap.size w w' := by
  by_cases h1 : c ≤ a <;> by_cases h2 : b ≤ d
  all_goals
    have hh : witB a b c d = decide (c ≤ a ∧ b ≤ d) := rfl
    simp only [h1, h2, and_self, and_true, and_false, decide_true, decide_false] at hh
    have H := hid hh; clear hh
    go_enter Try.func45, Try.ntmps45
    go_wp2
    go_ret
    exact ⟨ret_bool (by rw [H.out]), by repeat (first | exact Below.refl _ _ | refine Below.alloc ?_ (by simp <;> omega) _ | refine Below.drew ?_ | refine below_drewN ?_ _)⟩

theorem saysVal (g : Gau) (p : GPos) (t now : Int) (s : (Int × Int) × Int) (w : World) (hok : GauOk w p g) (hs : saysP g t now = s) :
    Calls Try.prog 30 #[.agg #[.string g.name, .int .i64 g.err, .int .i64 g.rate, .slice p.da g.ds.length p.dc, .slice p.ra g.rs.length p.rc], .int .i64 t, .int .i64 now] w
      fun e w' => e = .returned (.tuple #[.agg #[.int .i64 s.1.1, .int .i64 s.1.2], .int .i64 s.2]) ∧ Below w.heap.size w w' := by
  rw [← hs]; exact saysFn_any g p t now w hok
theorem within_true (a b c d : Int) (w : World) (h : c ≤ a ∧ b ≤ d) :
    Calls Try.prog 45 #[.agg #[.int .i64 a, .int .i64 b], .agg #[.int .i64 c, .int .i64 d]] w fun e w' => e = .returned (.bool true) ∧ Below w.heap.size w w' := by
  have := within_any a b c d w
  rwa [witB_iff.2 h] at this

set_option hygiene false in
/-- The two asks, and what is held of them. -/
local macro "knows_tail" : tactic => `(tactic| (
    generalize hW1 : World.drew (World.alloc (World.alloc w _) _) = W1
    have B1 : Below w.heap.size w W1 := by rw [← hW1]; exact (((Below.refl _ _).alloc (Nat.le_refl _) _).alloc (by simp) _).drew
    have S1 : w.heap.size + 1 < W1.heap.size := by rw [← hW1]; simp
    have hbox : GauBox W1 w.heap.size g p := by rw [← hW1]; exact ⟨by simp [go_sem], by simp [go_sem], by simp [go_sem], by simp [go_sem], by simp [go_sem]⟩
    clear hW1
    refine (saysVal g p _ _ _ _ (HH.out.later B1 (Nat.le_refl _)) HA.out).mono ?_
    rintro e W2 ⟨rfl, B2⟩
    have S2 := B2.size
    have hbox2 := hbox.later B2 (by omega)
    have BW2 : Below w.heap.size w W2 := B1.trans (B2.mono (by omega))
    clear B2 B1 hbox
    have hn : w.heap.size ≠ W2.heap.size := by omega
    have hl : w.heap.size < W2.heap.size := by omega
    obtain ⟨c0, c1, c2, c3, c4⟩ := hbox2
    go_wp2_with fail
    refine (saysVal g p _ _ _ _ (HH.out.later (BW2.alloc (Nat.le_of_lt hl) _) (Nat.le_refl _)) HB.out).mono ?_
    rintro e W3 ⟨rfl, B3⟩
    have S3 := B3.size
    have BW3 : Below w.heap.size w W3 := (BW2.alloc (Nat.le_of_lt hl) _).trans (B3.mono (by simp; omega))
    have a0 : W3.cell? ⟨W2.heap.size, 0, none⟩ = some (.int .i64 sa.1.1) := (B3.cell (p := ⟨W2.heap.size, 0, none⟩) (by simp)).trans (by simp [go_sem])
    have a1 : W3.cell? ⟨W2.heap.size, 1, none⟩ = some (.int .i64 sa.1.2) := (B3.cell (p := ⟨W2.heap.size, 1, none⟩) (by simp)).trans (by simp [go_sem])
    clear B3 c0 c1 c2 c3 c4 BW2 HA HB HH
    simp only [World.size_alloc] at S3
    have hl3 : w.heap.size < W3.heap.size := by omega
    have hl2 : W2.heap.size < W3.heap.size := by omega
    have hn2 : W2.heap.size ≠ W3.heap.size := by omega
    clear S3 hn hl
    by_cases ha : sa.2 = 0 <;> by_cases hb : sb.2 = 0
    · obtain ⟨k, _⟩ := HK.out hb
      have k := k ha
      clear HK
      have q0 : (sa.2 == 0) = true := by simp [ha]
      have q1 : (sb.2 == 0) = true := by simp [hb]
      clear ha hb
      obtain ⟨k1, k2, k3, k4, k5⟩ := k
      go_wp2_with fail
      refine (within_true _ _ _ _ _ ⟨k1, k2⟩).mono ?_
      rintro e W4 ⟨rfl, B4⟩
      have d0 := (B4.cell (p := ⟨W2.heap.size, 0, none⟩) (by simp; omega)).trans ((World.cell?_alloc_lt _ _ _ hl2).trans a0)
      have d1 := (B4.cell (p := ⟨W2.heap.size, 1, none⟩) (by simp; omega)).trans ((World.cell?_alloc_lt _ _ _ hl2).trans a1)
      have e0 : W4.cell? ⟨W3.heap.size, 0, none⟩ = some (.int .i64 sb.1.1) := (B4.cell (p := ⟨W3.heap.size, 0, none⟩) (by simp)).trans (by simp [go_sem])
      have e1 : W4.cell? ⟨W3.heap.size, 1, none⟩ = some (.int .i64 sb.1.2) := (B4.cell (p := ⟨W3.heap.size, 1, none⟩) (by simp)).trans (by simp [go_sem])
      have BW4 : Below w.heap.size w W4 := (BW3.alloc (Nat.le_of_lt hl3) _).trans (B4.mono (by simp; omega))
      clear B4 a0 a1 BW3 k1 k2 hl2 hn2 hl3
      go_wp2_with fail
      refine (awake_any _).mono ?_
      rintro e W5 ⟨rfl, B5⟩
      have BW5 := BW4.trans (B5.mono BW4.size)
      clear B5 BW4 d0 d1 e0 e1
      go_wp2_with fail
      go_ret
      exact ⟨rfl, BW5⟩
    all_goals
      have hq : ¬ (sa.2 = 0 ∧ sb.2 = 0) := by omega
      have hr : ((sa.2 == 0) = false ∧ (sa.2 != 9) = true) ∨ ((sa.2 == 0) = false ∧ (sa.2 != 9) = false ∧ (sb.2 != 0) = true) ∨ ((sa.2 == 0) = true ∧ (sa.2 != 9) = true ∧ (sb.2 == 0) = false) := by
        by_cases h0 : sa.2 = 0
        · exact .inr (.inr ⟨by simp [h0], by simp [h0], by simpa using fun h1 => hq ⟨h0, h1⟩⟩)
        · by_cases h9 : sa.2 = 9
          · exact .inr (.inl ⟨by simp [h9], by simp [h9], by simpa using fun h1 => (HK.out h1).2 h9⟩)
          · exact .inl ⟨by simp [h0], by simp [h9]⟩
      clear hq HK ha hb
      rcases hr with ⟨hr, hs⟩ | ⟨hr, hs, ht⟩ | ⟨hr, hs, ht⟩
      all_goals
        go_wp2_with fail
        refine (awake_any _).mono ?_
        rintro e W5 ⟨rfl, B5⟩
        have BW5 : Below w.heap.size w W5 := (BW3.alloc (Nat.le_of_lt hl3) _).trans (B5.mono (by simp; omega))
        clear B5 BW3
        go_wp2_with fail
        go_ret
        exact ⟨rfl, BW5⟩))

set_option maxRecDepth 100000 in
set_option maxHeartbeats 2000000 in
theorem knows_lt (g : Gau) (p : GPos) (x0 x1 x2 : Int) (w : World) (hok : GauOk w p g) (hx : x1 < x2) :
    Calls Try.prog 13 #[.agg #[.string g.name, .int .i64 g.err, .int .i64 g.rate, .slice p.da g.ds.length p.dc, .slice p.ra g.rs.length p.rc], .agg #[.int .i64 x0, .int .i64 x1, .int .i64 x2]] w
      fun e w' => e = .returned (.bool true) ∧ Below w.heap.size w w' := by
  have HH := hid hok; clear hok
  have key := knowsP g x0 (Int.le_of_lt hx)
  obtain ⟨sa, hsa⟩ : ∃ s, saysP g x0 x1 = s := ⟨_, rfl⟩
  obtain ⟨sb, hsb⟩ : ∃ s, saysP g x0 x2 = s := ⟨_, rfl⟩
  have key : sb.2 = 0 → (sa.2 = 0 → sa.1.1 ≤ sb.1.1 ∧ sb.1.2 ≤ sa.1.2 ∧ sb.1.1 ≤ sb.1.2 ∧ -20000 ≤ sa.1.1 ∧ sa.1.2 ≤ 20000) ∧ sa.2 ≠ 9 := by rw [← hsa, ← hsb]; exact key
  have HA := hid hsa; have HB := hid hsb; have HK := hid key; clear key hsa hsb
  go_enter Try.func13, Try.ntmps13
  go_wp2_with fail
  go_region
  go_wp2_with fail
  knows_tail

set_option maxRecDepth 100000 in
set_option maxHeartbeats 2000000 in
theorem knows_eq (g : Gau) (p : GPos) (x0 x1 x2 : Int) (w : World) (hok : GauOk w p g) (hx : x1 = x2) :
    Calls Try.prog 13 #[.agg #[.string g.name, .int .i64 g.err, .int .i64 g.rate, .slice p.da g.ds.length p.dc, .slice p.ra g.rs.length p.rc], .agg #[.int .i64 x0, .int .i64 x1, .int .i64 x2]] w
      fun e w' => e = .returned (.bool true) ∧ Below w.heap.size w w' := by
  have HH := hid hok; clear hok
  subst hx
  have key := knowsP g x0 (Int.le_refl x1)
  obtain ⟨sa, hsa⟩ : ∃ s, saysP g x0 x1 = s := ⟨_, rfl⟩
  obtain ⟨sb, hsb⟩ : ∃ s, saysP g x0 x1 = s := ⟨_, rfl⟩
  have key : sb.2 = 0 → (sa.2 = 0 → sa.1.1 ≤ sb.1.1 ∧ sb.1.2 ≤ sa.1.2 ∧ sb.1.1 ≤ sb.1.2 ∧ -20000 ≤ sa.1.1 ∧ sa.1.2 ≤ 20000) ∧ sa.2 ≠ 9 := by rw [← hsa, ← hsb]; exact key
  have HA := hid hsa; have HB := hid hsb; have HK := hid key; clear key hsa hsb
  go_enter Try.func13, Try.ntmps13
  go_wp2_with fail
  go_region
  go_wp2_with fail
  knows_tail

set_option maxRecDepth 100000 in
set_option maxHeartbeats 2000000 in
theorem knows_gt (g : Gau) (p : GPos) (x0 x1 x2 : Int) (w : World) (hok : GauOk w p g) (hx : x2 < x1) :
    Calls Try.prog 13 #[.agg #[.string g.name, .int .i64 g.err, .int .i64 g.rate, .slice p.da g.ds.length p.dc, .slice p.ra g.rs.length p.rc], .agg #[.int .i64 x0, .int .i64 x1, .int .i64 x2]] w
      fun e w' => e = .returned (.bool true) ∧ Below w.heap.size w w' := by
  have HH := hid hok; clear hok
  have key := knowsP g x0 (Int.le_of_lt hx)
  obtain ⟨sa, hsa⟩ : ∃ s, saysP g x0 x2 = s := ⟨_, rfl⟩
  obtain ⟨sb, hsb⟩ : ∃ s, saysP g x0 x1 = s := ⟨_, rfl⟩
  have key : sb.2 = 0 → (sa.2 = 0 → sa.1.1 ≤ sb.1.1 ∧ sb.1.2 ≤ sa.1.2 ∧ sb.1.1 ≤ sb.1.2 ∧ -20000 ≤ sa.1.1 ∧ sa.1.2 ≤ 20000) ∧ sa.2 ≠ 9 := by rw [← hsa, ← hsb]; exact key
  have HA := hid hsa; have HB := hid hsb; have HK := hid key; clear key hsa hsb
  go_enter Try.func13, Try.ntmps13
  go_wp2_with fail
  go_region
  go_wp2_with fail
  knows_tail

theorem knows_any (g : Gau) (p : GPos) (x0 x1 x2 : Int) (w : World) (hok : GauOk w p g) :
    Calls Try.prog 13 #[.agg #[.string g.name, .int .i64 g.err, .int .i64 g.rate, .slice p.da g.ds.length p.dc, .slice p.ra g.rs.length p.rc], .agg #[.int .i64 x0, .int .i64 x1, .int .i64 x2]] w
      fun e w' => e = .returned (.bool true) ∧ Below w.heap.size w w' := by
  rcases Int.lt_trichotomy x1 x2 with hx | hx | hx
  · exact knows_lt g p x0 x1 x2 w hok hx
  · exact knows_eq g p x0 x1 x2 w hok hx
  · exact knows_gt g p x0 x1 x2 w hok hx
end Go.Proofs.Ytcbapmjjbdmciaa
