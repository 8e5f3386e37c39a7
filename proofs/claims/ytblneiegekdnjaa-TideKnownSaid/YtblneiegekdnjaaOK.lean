/- Tide, part OK: the examples of the document, as numbers. -/
import Derived.Test.YtblneiegekdnjaaSU
import Derived.Test.YtblneiegekdnjaaTP
import Derived.Test.YtblneiegekdnjaaFA
import Derived.Test.YtblneiegekdnjaaZH
import Derived.Test.YtblneiegekdnjaaZQ
set_option linter.all false
namespace Go.Proofs.Ytblneiegekdnjaa
open Go.RowKit Go.Shelf

def exLock : Gau := ⟨⟨#[108, 111, 99, 107]⟩, 50, 50, [⟨0, 0, 0⟩], [⟨110, 650⟩]⟩
def exWeir : Gau := ⟨⟨#[119, 101, 105, 114]⟩, 5, 50, [⟨0, 0, 0⟩], [⟨110, 5⟩]⟩
def exTwo : List Gau := [exGau, exLock]
def exThree : List Gau := [exGau, exLock, exWeir]
theorem ex_v2 : voiceL exTwo 110 110 exTwo.length = [(580, 630, 0), (600, 700, 1)] := by decide +kernel
theorem ex_v3 : voiceL exThree 110 110 exThree.length = [(580, 630, 0), (600, 700, 1), (0, 10, 2)] := by decide +kernel
theorem ex_ask2 : askE exTwo 110 110 = 0 := by decide +kernel
theorem ex_ask3 : askE exThree 110 110 = 0 := by decide +kernel
theorem ex_cnt2 (x : Int) : cnt [(580, 630, 0), (600, 700, 1)] x = (if 580 ≤ x ∧ x ≤ 630 then 1 else 0) + (if 600 ≤ x ∧ x ≤ 700 then 1 else 0) := by
  unfold cnt
  simp only [List.countP_cons, List.countP_nil, decide_eq_true_eq]
  split <;> split <;> simp_all
theorem ex_cnt3 (x : Int) : cnt [(580, 630, 0), (600, 700, 1), (0, 10, 2)] x = (if 580 ≤ x ∧ x ≤ 630 then 1 else 0) + (if 600 ≤ x ∧ x ≤ 700 then 1 else 0) + (if 0 ≤ x ∧ x ≤ 10 then 1 else 0) := by
  unfold cnt
  simp only [List.countP_cons, List.countP_nil, decide_eq_true_eq]
  split <;> split <;> split <;> simp_all
theorem ex_sound2 : SoundIs exTwo 0 110 110 ((600, 630), 0) := by
  unfold SoundIs
  rw [if_neg (by rw [ex_ask2]; decide), if_neg (by decide), ex_v2]
  refine .inr ⟨rfl, by decide, by decide, fun x hx => ?_⟩
  rw [ex_cnt2] at hx
  have : ((exTwo.length : Int) - 0) = 2 := rfl
  rw [this] at hx
  split at hx <;> split at hx <;> simp at * <;> omega
theorem ex_sound3 : SoundIs exThree 0 110 110 ((0, 0), 9) := by
  unfold SoundIs
  rw [if_neg (by rw [ex_ask3]; decide), if_neg (by decide), ex_v3]
  refine .inl ⟨rfl, fun x hx => ?_⟩
  rw [ex_cnt3] at hx
  have : ((exThree.length : Int) - 0) = 3 := rfl
  rw [this] at hx
  split at hx <;> split at hx <;> split at hx <;> simp at * <;> omega
theorem ex_sound31 : SoundIs exThree 1 110 110 ((600, 630), 0) := by
  unfold SoundIs
  rw [if_neg (by rw [ex_ask3]; decide), if_neg (by decide), ex_v3]
  refine .inr ⟨rfl, by decide, by decide, fun x hx => ?_⟩
  rw [ex_cnt3] at hx
  have : ((exThree.length : Int) - 1) = 2 := rfl
  rw [this] at hx
  split at hx <;> split at hx <;> split at hx <;> simp at * <;> omega
theorem ex_has0 (x : Int) : hasB exGau 110 110 x = true ↔ 580 ≤ x ∧ x ≤ 630 := by
  rw [hasB_iff, show sayP exGau 110 110 = ((580, 630), 0) by decide +kernel]; simp
theorem ex_has1 (x : Int) : hasB exLock 110 110 x = true ↔ 600 ≤ x ∧ x ≤ 700 := by
  rw [hasB_iff, show sayP exLock 110 110 = ((600, 700), 0) by decide +kernel]; simp
theorem ex_has2 (x : Int) : hasB exWeir 110 110 x = true ↔ 0 ≤ x ∧ x ≤ 10 := by
  rw [hasB_iff, show sayP exWeir 110 110 = ((0, 10), 0) by decide +kernel]; simp
theorem ex_agree3 : AgreeIs exThree 110 110 2 [2] 0 := by
  unfold AgreeIs
  rw [if_neg (by rw [ex_ask3]; decide), ex_v3]
  refine ⟨⟨fun x => ?_, .inr ⟨600, by decide⟩⟩, ?_, rfl⟩
  · rw [ex_cnt3]; split <;> split <;> split <;> simp <;> omega
  · have h0 : withB exGau 110 110 [(580, 630, 0), (600, 700, 1), (0, 10, 2)] 2 = true := withB_iff.2 ⟨600, by decide, (ex_has0 _).2 (by decide)⟩
    have h1 : withB exLock 110 110 [(580, 630, 0), (600, 700, 1), (0, 10, 2)] 2 = true := withB_iff.2 ⟨600, by decide, (ex_has1 _).2 (by decide)⟩
    have h2 : withB exWeir 110 110 [(580, 630, 0), (600, 700, 1), (0, 10, 2)] 2 = false := by
      cases h : withB exWeir 110 110 [(580, 630, 0), (600, 700, 1), (0, 10, 2)] 2
      · rfl
      · obtain ⟨x, hx, hb⟩ := withB_iff.1 h
        have hb := (ex_has2 x).1 hb
        rw [ex_cnt3] at hx
        rw [if_neg (by omega), if_neg (by omega), if_pos hb] at hx
        exact absurd hx (by decide)
    show [2] = othersL exThree 110 110 _ 2 3
    rw [othersL_no (k := 2) (by exact h2), othersL_yes (k := 1) (by exact h1), othersL_yes (k := 0) (by exact h0)]
    rfl
def exTicks : List Int := [0, 1, 37]
def exLevels : List (Int × Int) := [(90, 110), (144, 165), (90, 110)]
theorem ex_levels : ∀ k : Nat, k < 3 → levelP 100 [exCon] (exTicks.getD k 0) = (exLevels.getD k (0, 0), 0) := by decide +kernel
def exAt : List Int := [90, 92, 90, 110]
def exNow : List Int := [100, 100, 110, 110]
def exSays : List (Int × Int) := [(480, 520), (380, 620), (480, 520), (580, 630)]
theorem ex_says : ∀ k : Nat, k < 4 → saysP exGau (exAt.getD k 0) (exNow.getD k 0) = (exSays.getD k (0, 0), 0) := by decide +kernel
theorem ex_period : periodP 100 [exCon] = (74, 0) := by decide +kernel
theorem ex_high1 : highP 100 [exCon] 18 2 = ([18, 19], 0) := by decide +kernel
theorem ex_high2 : highP 100 [exCon] 0 2 = ([1], 0) := by decide +kernel
theorem ex_fit : fitP exGau 1 110 [(590, 595)] = ((30, 40), 0) := by decide +kernel
end Go.Proofs.Ytblneiegekdnjaa
