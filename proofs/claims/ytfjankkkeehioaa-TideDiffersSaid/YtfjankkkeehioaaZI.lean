/- Tide, part ZI: what TideHighest says: mathematics. -/
import Derived.Test.YtfjankkkeehioaaZH
set_option linter.all false
namespace Go.Proofs.Ytfjankkkeehioaa
open Go.RowKit

theorem partAt_le {c : Con} (h : ConGood c) (t : Int) : (partAt c t).1 ≤ (partAt c t).2 := by
  have h9 := h.slack1
  have h3 := h.den1
  unfold partAt partP
  generalize heightN c (placeOf c t / c.den).toNat (placeOf c t % c.den) = N
  have : N / c.den ≤ upq N c.den := by
    by_cases e : N % c.den = 0
    · have := upq_eq N c.den e; omega
    · have := upq_ne N c.den e (by omega); omega
  show N / c.den - c.slack ≤ upq N c.den + c.slack
  omega
theorem levelAt_le {mean : Int} {cs : List Con} (h : ∀ c ∈ cs, ConGood c) (t : Int) : (levelAt mean cs t).1 ≤ (levelAt mean cs t).2 := by
  unfold levelAt
  have key : ∀ (l : List Con) (s : Int × Int), (∀ c ∈ l, ConGood c) → s.1 ≤ s.2 → (l.foldl (fun s c => addP c t s) s).1 ≤ (l.foldl (fun s c => addP c t s) s).2 := by
    intro l
    induction l with
    | nil => intro s _ h; exact h
    | cons c r ih =>
      intro s hg hs
      rw [List.foldl_cons]
      refine ih _ (fun c hc => hg c (List.mem_cons_of_mem _ hc)) ?_
      have := partAt_le (hg c List.mem_cons_self) t
      unfold addP; simp only; omega
  exact key cs _ h (Int.le_refl _)

/-- The level that is tried at a place. -/
def atP (L : List (Int × Int)) (sh : List Int) (i : Nat) : Int :=
  if i < sh.length then (L.getD i (0, 0)).1 + ((L.getD i (0, 0)).2 - (L.getD i (0, 0)).1) * sh.getD i 0 / 255 else (L.getD i (0, 0)).1
def atL (L : List (Int × Int)) (sh : List Int) (k : Nat) : List Int := (List.range k).map (atP L sh)
theorem atL_len (L : List (Int × Int)) (sh : List Int) (k : Nat) : (atL L sh k).length = k := by simp [atL]
theorem atL_get (L : List (Int × Int)) (sh : List Int) (k i : Nat) (h : i < (atL L sh k).length) : (atL L sh k)[i] = atP L sh i := by simp [atL]
theorem atL_snoc (L : List (Int × Int)) (sh : List Int) (k : Nat) : atL L sh (k + 1) = atL L sh k ++ [atP L sh k] := by simp [atL, List.range_succ]
theorem share_bd {d s : Int} (h0 : 0 ≤ d) (hs0 : 0 ≤ s) (hs1 : s ≤ 255) : 0 ≤ d * s / 255 ∧ d * s / 255 ≤ d := by
  have h1 : 0 ≤ d * s := Int.mul_nonneg h0 hs0
  have h2 : d * s ≤ d * 255 := Int.mul_le_mul_of_nonneg_left hs1 h0
  omega
theorem atP_yes {L : List (Int × Int)} {sh : List Int} {i : Nat} (h : i < L.length) (h2 : i < sh.length) : atP L sh i = L[i].1 + (L[i].2 - L[i].1) * sh[i] / 255 := by
  unfold atP; rw [if_pos h2, show L.getD i (0, 0) = L[i] by simp [List.getD, h], show sh.getD i 0 = sh[i] by simp [List.getD, h2]]
theorem atP_no {L : List (Int × Int)} {sh : List Int} {i : Nat} (h : i < L.length) (h2 : ¬ i < sh.length) : atP L sh i = L[i].1 := by
  unfold atP; rw [if_neg h2, show L.getD i (0, 0) = L[i] by simp [List.getD, h]]
theorem atP_bd {L : List (Int × Int)} {sh : List Int} {i : Nat} (h : i < L.length) (hle : L[i].1 ≤ L[i].2) (hsh : ∀ s ∈ sh, 0 ≤ s ∧ s ≤ 255) : L[i].1 ≤ atP L sh i ∧ atP L sh i ≤ L[i].2 := by
  by_cases h2 : i < sh.length
  · rw [atP_yes h h2]
    obtain ⟨s0, s1⟩ := hsh sh[i] (List.getElem_mem _)
    have := share_bd (show 0 ≤ L[i].2 - L[i].1 by omega) s0 s1
    omega
  · rw [atP_no h h2]; omega
/-- The first of the greatest ones. -/
def mostOf (f : Nat → Int) : Nat → Nat
  | 0 => 0
  | k + 1 => if f (mostOf f k) < f k then k else mostOf f k
theorem mostOf_lt (f : Nat → Int) : ∀ k, 0 < k → mostOf f k < k
  | 0, h => by omega
  | k + 1, _ => by
    unfold mostOf
    split
    · omega
    · rcases Nat.eq_zero_or_pos k with h | h
      · subst h; simp [mostOf]
      · have := mostOf_lt f k h; omega
theorem mostOf_le (f : Nat → Int) : ∀ k, mostOf f k ≤ k
  | 0 => by simp [mostOf]
  | k + 1 => by
    have := mostOf_le f k
    unfold mostOf
    split <;> omega
theorem mostOf_max (f : Nat → Int) : ∀ k i, i < k → f i ≤ f (mostOf f k)
  | 0, i, h => by omega
  | k + 1, i, h => by
    unfold mostOf
    by_cases e : i = k
    · subst e
      split
      · exact Int.le_refl _
      · omega
    · have := mostOf_max f k i (by omega)
      split
      · omega
      · exact this
/-- The tick of the greatest level is among the highest ones. -/
theorem most_high {L : List (Int × Int)} {sh : List Int} {x : Int} (hne : 0 < L.length) (hle : ∀ i (h : i < L.length), -9223372036854775808 ≤ L[i].1 ∧ L[i].1 ≤ L[i].2) (hsh : ∀ s ∈ sh, 0 ≤ s ∧ s ≤ 255) :
    x + (mostOf (atP L sh) L.length : Nat) ∈ highK L x L.length := by
  have hm := mostOf_lt (atP L sh) L.length hne
  rw [highK_mem]
  refine ⟨_, hm, rfl, ?_⟩
  rw [show L.getD (mostOf (atP L sh) L.length) (0, 0) = L[mostOf (atP L sh) L.length] by simp [List.getD, hm]]
  have hb := atP_bd hm (hle _ hm).2 hsh
  have h1 := hle _ hm
  rw [sureOf_le L (by omega), List.all_eq_true]
  intro s hs
  obtain ⟨i, hi, rfl⟩ := List.getElem_of_mem hs
  have hb2 := atP_bd hi (hle i hi).2 hsh
  have := mostOf_max (atP L sh) L.length i hi
  simp only [decide_eq_true_eq]; omega
/-- What is told of the i-th of the highest ticks. -/
theorem high_at {L : List (Int × Int)} {x : Int} {i : Nat} (h : i < (highK L x L.length).length) :
    ∃ k : Nat, (highK L x L.length)[i] = x + (k : Int) ∧ k < L.length ∧ sureOf L ≤ (L.getD k (0, 0)).2 := by
  obtain ⟨k, h1, h2, h3⟩ := (highK_mem L x L.length _).1 (List.getElem_mem h)
  exact ⟨k, h2, h1, h3⟩
theorem high_asc {L : List (Int × Int)} {x : Int} {i : Nat} (h : i + 1 < (highK L x L.length).length) : (highK L x L.length)[i] < (highK L x L.length)[i + 1] :=
  List.pairwise_iff_getElem.1 (highK_asc L x L.length) i (i + 1) (by omega) h (by omega)
end Go.Proofs.Ytfjankkkeehioaa
