/- Tide, part FA: Fit, as numbers; what its checks find. -/
import Derived.Test.YtblneiegekdnjaaZA
set_option linter.all false
namespace Go.Proofs.Ytblneiegekdnjaa
open Go.RowKit

/-- The error of the i-th of the levels that are told. -/
def lvE (L : List (Int × Int)) (i : Nat) : Int := if insB (L.getD i (0, 0)).1 (L.getD i (0, 0)).2 (-20000) 20000 = true then 0 else 2
/-- Is there a level at a tick? -/
def toldB (L : List (Int × Int)) (x t : Int) : Bool := decide (0 < L.length) && inB t x (x + L.length - 1)
def fitStep (g : Gau) (n x : Int) (L : List (Int × Int)) (s : Int × Int) (r : Rdg) : Int × Int :=
  if toldB L x r.tick = true ∧ ((dIdx g.ds r.tick g.ds.length : Nat) : Int) = n then (max s.1 (r.value - g.err - (L.getD (r.tick - x).toNat (0, 0)).2), min s.2 (r.value + g.err - (L.getD (r.tick - x).toNat (0, 0)).1)) else s
def fitFold (g : Gau) (n x : Int) (L : List (Int × Int)) (k : Nat) : Int × Int := (g.rs.take k).foldl (fitStep g n x L) ((g.ds.getD n.toNat default).lo, (g.ds.getD n.toNat default).hi)
theorem fitFold_snoc (g : Gau) (n x : Int) (L : List (Int × Int)) (k : Nat) (h : k < g.rs.length) : fitFold g n x L (k + 1) = fitStep g n x L (fitFold g n x L k) g.rs[k] := by
  unfold fitFold; rw [List.take_succ_eq_append_getElem h, List.foldl_append]; rfl
/-- The first error of what Fit is asked, behind the gauge's. -/
def fitE (g : Gau) (n x : Int) (L : List (Int × Int)) : Int :=
  if inB n 0 ((g.ds.length : Int) - 1) = false then 4 else if 400 < L.length then 3 else if ticksB x L.length = false then 7 else (eachP (lvE L) 0 L.length).2
def fitP (g : Gau) (n x : Int) (L : List (Int × Int)) : (Int × Int) × Int :=
  if (gaugeP g).2.2 ≠ 0 then ((0, 0), (gaugeP g).2.2)
  else if fitE g n x L ≠ 0 then ((0, 0), fitE g n x L)
  else if (fitFold g n x L g.rs.length).2 < (fitFold g n x L g.rs.length).1 then ((0, 0), 9) else (fitFold g n x L g.rs.length, 0)
theorem fitP_eq (g : Gau) (n x : Int) (L : List (Int × Int)) : fitP g n x L = if (gaugeP g).2.2 ≠ 0 then ((0, 0), (gaugeP g).2.2)
  else if fitE g n x L ≠ 0 then ((0, 0), fitE g n x L)
  else if (fitFold g n x L g.rs.length).2 < (fitFold g n x L g.rs.length).1 then ((0, 0), 9) else (fitFold g n x L g.rs.length, 0) := rfl
theorem fit_first (g : Gau) (n x : Int) (L : List (Int × Int)) :
    (firstAt 0 [mustP (inB n 0 ((g.ds.length : Int) - 1)) 0 4, mustP (decide ((L.length : Int) ≤ 400)) 0 3, mustP (ticksB x L.length) 0 7, eachP (lvE L) 0 L.length]).2.2 = fitE g n x L := by
  unfold fitE
  cases h : inB n 0 ((g.ds.length : Int) - 1)
  · simp [firstAt, mustP]
  · by_cases h2 : 400 < L.length
    · have : decide ((L.length : Int) ≤ 400) = false := by simp; omega
      simp [firstAt, mustP, this, h2]
    · have h3 : decide ((L.length : Int) ≤ 400) = true := by simp; omega
      cases ht : ticksB x L.length
      · simp [firstAt, mustP, h3, h2]
      · rw [if_neg (by simp), if_neg h2, if_neg (by simp)]
        simp only [firstAt, mustP, h3, cond_true, ne_eq, not_true_eq_false, if_false]
        split
        · rfl
        · rename_i h0; exact (Decidable.not_not.1 h0).symm
/-- A table of levels without an error. -/
theorem fitE_ok {g : Gau} {n x : Int} {L : List (Int × Int)} (h : fitE g n x L = 0) :
    (0 ≤ n ∧ n ≤ (g.ds.length : Int) - 1) ∧ L.length ≤ 400 ∧ ticksB x L.length = true ∧ ∀ i (hi : i < L.length), -20000 ≤ L[i].1 ∧ L[i].1 ≤ L[i].2 ∧ L[i].2 ≤ 20000 := by
  unfold fitE at h
  split at h
  · cases h
  rename_i h1
  split at h
  · cases h
  rename_i h2
  split at h
  · cases h
  rename_i h3
  refine ⟨inB_iff.1 (by simpa using h1), by omega, by simpa using h3, fun i hi => ?_⟩
  have := each_all h i (Nat.zero_le _) (by omega)
  unfold lvE at this
  rw [show L.getD i (0, 0) = L[i] by simp [List.getD, hi]] at this
  split at this
  · rename_i h4; exact insB_iff.1 h4
  · cases this

theorem toldB_iff {L : List (Int × Int)} {x t : Int} : toldB L x t = true ↔ 0 < L.length ∧ (x ≤ t ∧ t ≤ x + L.length - 1) := by
  unfold toldB; simp [inB_iff]
theorem fitStep_no {g : Gau} {n x : Int} {L : List (Int × Int)} {s : Int × Int} {r : Rdg} (h : ¬ (toldB L x r.tick = true ∧ ((dIdx g.ds r.tick g.ds.length : Nat) : Int) = n)) : fitStep g n x L s r = s := by unfold fitStep; rw [if_neg h]
theorem fitStep_yes {g : Gau} {n x : Int} {L : List (Int × Int)} {s : Int × Int} {r : Rdg} (h : toldB L x r.tick = true) (h2 : ((dIdx g.ds r.tick g.ds.length : Nat) : Int) = n) {m : Nat} (hm : r.tick - x = m) (hml : m < L.length) :
    fitStep g n x L s r = (max s.1 (r.value - g.err - L[m].2), min s.2 (r.value + g.err - L[m].1)) := by
  unfold fitStep
  rw [if_pos ⟨h, h2⟩, hm, Int.toNat_natCast, show L.getD m (0, 0) = L[m] by simp [List.getD, hml]]
theorem callFunc_fit1 (args : Array Value) (w : World) : (callFunc 85 args).run Try.prog w = .ok (.enter 85 args) w := by simp [go_sem]
set_option maxHeartbeats 1000000 in
theorem fit1_any (tb : Nat) (a : Option Addr) (cap : Nat) (L : List (Int × Int)) (i : Nat) (hi : i < L.length) (hl : L.length ≤ 140737488355328) (w : World) (h1 : w.cell? ⟨tb, 0, none⟩ = some (.slice a L.length cap)) (hat : SpansAt w a L) :
    Calls Try.prog 85 #[.int .i64 i, .pointer (some ⟨tb, 0, none⟩)] w fun e w' => e = .returned (.int .i64 (lvE L i)) ∧ Below w.heap.size w w' := by
  rcases hat with h0 | ⟨b, o, rfl, hs, hc⟩
  · rw [h0] at hi; simp at hi
  obtain ⟨c0, c1⟩ := hc i hi
  have HE := hid (show lvE L i = if insB L[i].1 L[i].2 (-20000) 20000 = true then 0 else 2 by unfold lvE; rw [show L.getD i (0, 0) = L[i] by simp [List.getD, hi]])
  have hil : (i : Int) < (L.length : Int) := by omega
  clear hc
  generalize L[i] = s at *
  cases hin : insB s.1 s.2 (-20000) 20000
  all_goals
    have HIn := hid hin
    go_enter Try.func85, Try.ntmps85
    go_wp2_with (go_at_call 86; refine (inside_val _ _ _ _ _ _ (by assumption)).mono ?_; rintro e w' ⟨rfl, hb'⟩)
    go_ret
    exact ⟨by rw [HE.out, HIn.out]; rfl, hb'⟩
end Go.Proofs.Ytblneiegekdnjaa
