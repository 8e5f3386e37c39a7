/- Tide, part GF: what Fit says of readings that came about by levels; as numbers. -/
import Derived.Test.YtfjankkkeehioaaGA
import Derived.Test.YtfjankkkeehioaaFA
set_option linter.all false
namespace Go.Proofs.Ytfjankkkeehioaa
open Go.RowKit

def sureL (L : List Int) : List (Int × Int) := L.map fun l => (l, l)
def wideL (b0 b1 : Int) (L : List Int) : List (Int × Int) := L.map fun l => (max (-20000) (l - b0), min 20000 (l + b1))
theorem sureL_len (L : List Int) : (sureL L).length = L.length := by simp [sureL]
theorem wideL_len (b0 b1 : Int) (L : List Int) : (wideL b0 b1 L).length = L.length := by simp [wideL]

/-- The first of two spans is in the second one. -/
def InSpan (a b : Int × Int) : Prop := b.1 ≤ a.1 ∧ a.2 ≤ b.2
theorem fit_steps {g : Gau} (hg : Sane g) {x b0 b1 : Int} {sh L : List Int} (hb0 : 0 ≤ b0) (hb1 : 0 ≤ b1) (hL : ∀ i (h : i < L.length), -20000 ≤ L[i] ∧ L[i] ≤ 20000) (d : Nat) (hd : d < g.ds.length) (ss : Int × Int) :
    ∀ (l : List Rdg) (s t : Int × Int), (∀ r ∈ l, Came g x sh L r) → (s.1 ≤ shiftOf g.ds[d] sh d ∧ shiftOf g.ds[d] sh d ≤ s.2) → InSpan s t → InSpan t ss →
      ((l.foldl (fitStep g d x (sureL L)) s).1 ≤ shiftOf g.ds[d] sh d ∧ shiftOf g.ds[d] sh d ≤ (l.foldl (fitStep g d x (sureL L)) s).2) ∧ InSpan (l.foldl (fitStep g d x (sureL L)) s) (l.foldl (fitStep g d x (wideL b0 b1 L)) t) ∧ InSpan (l.foldl (fitStep g d x (wideL b0 b1 L)) t) ss
  | [], s, t, _, h1, h2, h3 => ⟨h1, h2, h3⟩
  | r :: l, s, t, hr, h1, h2, h3 => by
    obtain ⟨p, hp, ht, hv⟩ := hr r List.mem_cons_self
    obtain ⟨er, e1, e2, hv⟩ := hv hg
    simp only [List.foldl_cons]
    by_cases hdi : ((dIdx g.ds r.tick g.ds.length : Nat) : Int) = (d : Int)
    · have hdn : dIdx g.ds r.tick g.ds.length = d := by omega
      have htS : toldB (sureL L) x r.tick = true := toldB_iff.2 (by rw [sureL_len]; omega)
      have htW : toldB (wideL b0 b1 L) x r.tick = true := toldB_iff.2 (by rw [wideL_len]; omega)
      have hm : r.tick - x = (p : Int) := by omega
      rw [fitStep_yes htS hdi hm (by rw [sureL_len]; exact hp), fitStep_yes htW hdi hm (by rw [wideL_len]; exact hp)]
      have eS : (sureL L)[p]'(by rw [sureL_len]; exact hp) = (L[p], L[p]) := by simp [sureL]
      have eW : (wideL b0 b1 L)[p]'(by rw [wideL_len]; exact hp) = (max (-20000) (L[p] - b0), min 20000 (L[p] + b1)) := by simp [wideL]
      rw [eS, eW]
      have eD : datumOf g r.tick = g.ds[d] := by unfold datumOf; rw [hdn]; simp [List.getD, hd]
      have eP : L.getD p 0 = L[p] := by simp [List.getD, hp]
      rw [eD, hdn, eP] at hv
      have hb := hL p hp
      refine fit_steps hg hb0 hb1 hL d hd ss l _ _ (fun r' h => hr r' (List.mem_cons_of_mem _ h)) ?_ ?_ ?_
      · simp only; omega
      · unfold InSpan at *; simp only; omega
      · unfold InSpan at *; simp only; omega
    · rw [fitStep_no (fun h => hdi h.2), fitStep_no (fun h => hdi h.2)]
      exact fit_steps hg hb0 hb1 hL d hd ss l _ _ (fun r' h => hr r' (List.mem_cons_of_mem _ h)) h1 h2 h3
theorem eachP_zero {f : Nat → Int} : ∀ (n k : Nat), (∀ i, k ≤ i → i < k + n → f i = 0) → (eachP f k n).2 = 0
  | 0, _, _ => rfl
  | n + 1, k, h => by
    unfold eachP
    rw [if_neg (by rw [h k (by omega) (by omega)]; simp)]
    exact eachP_zero n (k + 1) fun i h1 h2 => h i (by omega) (by omega)
theorem fitE_zero {g : Gau} {d : Nat} {x : Int} {S : List (Int × Int)} (hd : d < g.ds.length) (hl : S.length ≤ 150) (hx : 0 ≤ x ∧ x ≤ 199800) (hS : ∀ i (h : i < S.length), -20000 ≤ S[i].1 ∧ S[i].1 ≤ S[i].2 ∧ S[i].2 ≤ 20000) : fitE g d x S = 0 := by
  unfold fitE
  rw [if_neg (by rw [inB_iff.2 (by omega)]; simp), if_neg (by omega), if_neg (by rw [ticksB_iff.2 (by omega)]; simp)]
  refine eachP_zero _ _ fun i _ hi => ?_
  have hi : i < S.length := by omega
  unfold lvE
  rw [if_pos (by rw [show S.getD i (0, 0) = S[i] by simp [List.getD, hi]]; exact insB_iff.2 (hS i hi))]
/-- What Fit says with the exact levels, and with spans around them. -/
theorem fit_truth {g : Gau} (hg : (gaugeP g).2.2 = 0) {x b0 b1 : Int} {sh L : List Int} (hsh : ∀ s ∈ sh, 0 ≤ s ∧ s ≤ 255) (hb0 : 0 ≤ b0) (hb1 : 0 ≤ b1) (hL : Chain g.rate L) (hc : ∀ r ∈ g.rs, Came g x sh L r)
    (hx : 0 ≤ x ∧ x ≤ 199800) (hl : L.length ≤ 150) (d : Nat) (hd : d < g.ds.length) {a b : (Int × Int) × Int} (ha : fitP g d x (sureL L) = a) (hb : fitP g d x (wideL b0 b1 L) = b) :
    a.2 = 0 ∧ b.2 = 0 ∧ (a.1.1 ≤ shiftOf g.ds[d] sh d ∧ shiftOf g.ds[d] sh d ≤ a.1.2) ∧ InSpan a.1 b.1 ∧ InSpan b.1 (g.ds[d].lo, g.ds[d].hi) := by
  have hs := (gauGood hg).sane
  have hdat := hs.dat d hd
  have hsf := shiftOf_bd hsh hdat.2.1 d
  have eS : fitE g d x (sureL L) = 0 := fitE_zero hd (by rw [sureL_len]; exact hl) hx fun i hi => by
    have hi' : i < L.length := by rw [sureL_len] at hi; exact hi
    have := hL.bd i hi'
    simp [sureL]; omega
  have eW : fitE g d x (wideL b0 b1 L) = 0 := fitE_zero hd (by rw [wideL_len]; exact hl) hx fun i hi => by
    have hi' : i < L.length := by rw [wideL_len] at hi; exact hi
    have := hL.bd i hi'
    simp [wideL]; omega
  have eI : (g.ds.getD (d : Int).toNat default) = g.ds[d] := by simp [List.getD, hd]
  have key := fit_steps hs hb0 hb1 hL.bd d hd (g.ds[d].lo, g.ds[d].hi) g.rs (g.ds[d].lo, g.ds[d].hi) (g.ds[d].lo, g.ds[d].hi) hc hsf ⟨Int.le_refl _, Int.le_refl _⟩ ⟨Int.le_refl _, Int.le_refl _⟩
  have fS : fitFold g d x (sureL L) g.rs.length = g.rs.foldl (fitStep g d x (sureL L)) (g.ds[d].lo, g.ds[d].hi) := by unfold fitFold; rw [List.take_length, eI]
  have fW : fitFold g d x (wideL b0 b1 L) g.rs.length = g.rs.foldl (fitStep g d x (wideL b0 b1 L)) (g.ds[d].lo, g.ds[d].hi) := by unfold fitFold; rw [List.take_length, eI]
  rw [← fS, ← fW] at key
  obtain ⟨k1, k2, k3⟩ := key
  have hk := k2
  unfold InSpan at hk
  rw [fitP_eq, if_neg (by simp [hg]), if_neg (by simp [eS]), if_neg (by omega)] at ha
  rw [fitP_eq, if_neg (by simp [hg]), if_neg (by simp [eW]), if_neg (by omega)] at hb
  subst ha hb
  exact ⟨rfl, rfl, k1, k2, k3⟩
end Go.Proofs.Ytfjankkkeehioaa
