/- Tide, part GA: truths: levels, and readings that came about by them; as numbers. -/
import Derived.Test.YtfjankkkeehioaaTQ
set_option linter.all false
namespace Go.Proofs.Ytfjankkkeehioaa
open Go.RowKit

/-- Levels that change by at most Rate. -/
structure Chain (rate : Int) (L : List Int) : Prop where
  bd : ∀ i (h : i < L.length), -20000 ≤ L[i] ∧ L[i] ≤ 20000
  step : 0 ≤ rate → rate ≤ 5000 → ∀ i (h : i + 1 < L.length), L[i + 1] - L[i] ≤ rate ∧ L[i] - L[i + 1] ≤ rate
theorem Chain.one {rate l : Int} (h : -20000 ≤ l ∧ l ≤ 20000) : Chain rate [l] :=
  ⟨fun i hi => by
    have : i = 0 := by simpa using hi
    subst this; exact h, fun _ _ i hi => by simp at hi⟩
theorem Chain.snoc {rate x : Int} {L : List Int} {k : Nat} (h : Chain rate L) (hk : L.length = k + 1) (hx : -20000 ≤ x ∧ x ≤ 20000) (hs : 0 ≤ rate → rate ≤ 5000 → x - L[k]'(by omega) ≤ rate ∧ L[k]'(by omega) - x ≤ rate) : Chain rate (L ++ [x]) := by
  refine ⟨fun i hi => ?_, fun r0 r1 i hi => ?_⟩
  · rw [List.getElem_append]
    split
    · exact h.bd _ _
    · simpa using hx
  · simp only [List.length_append, List.length_cons, List.length_nil] at hi
    by_cases e : i + 1 < L.length
    · rw [List.getElem_append_left e, List.getElem_append_left (by omega)]; exact h.step r0 r1 i e
    · obtain rfl : i = k := by omega
      rw [List.getElem_append_right (by omega), List.getElem_append_left (by omega)]
      simpa [hk] using hs r0 r1
theorem Chain.far {rate : Int} {L : List Int} (h : Chain rate L) (r0 : 0 ≤ rate) (r1 : rate ≤ 5000) (p : Nat) : ∀ (k : Nat) (hk : p + k < L.length), L[p + k] - L[p] ≤ rate * k ∧ L[p] - L[p + k] ≤ rate * k
  | 0, hk => by simp
  | k + 1, hk => by
    have a := h.far r0 r1 p k (by omega)
    have b := h.step r0 r1 (p + k) (by omega)
    have e : rate * ((k + 1 : Nat) : Int) = rate * k + rate := by rw [show ((k + 1 : Nat) : Int) = (k : Int) + 1 by omega, Int.mul_add, Int.mul_one]
    rw [e]
    have c : L[p + (k + 1)] = L[p + k + 1] := rfl
    rw [c]; omega

/-- The product of a number in a limit and a share is in that limit. -/
theorem share_bd {r z : Int} (h0 : 0 ≤ r) (h1 : -127 * r ≤ z) (h2 : z ≤ 127 * r) : -r ≤ z.tdiv 127 ∧ z.tdiv 127 ≤ r := by
  by_cases g : z.tmod 127 < 0
  · have h3 := tdiv_neg z 127 (by omega) g
    have h4 : z < 0 := by
      rcases Int.lt_or_le z 0 with h | h
      · exact h
      · have := Int.tmod_nonneg 127 h; omega
    omega
  · have := tdiv_pos z 127 (by omega) g; omega
theorem part_bd {r z : Int} (h0 : 0 ≤ r) (h1 : 0 ≤ z) (h2 : z ≤ 255 * r) : 0 ≤ z.tdiv 255 ∧ z.tdiv 255 ≤ r := by
  rw [Int.tdiv_eq_ediv_of_nonneg h1]; omega
theorem times_bd {r m : Int} (h0 : 0 ≤ r) (h1 : -128 ≤ m) (h2 : m ≤ 127) : -127 * r ≤ r * max m (-127) ∧ r * max m (-127) ≤ 127 * r := by
  have e : -127 ≤ max m (-127) ∧ max m (-127) ≤ 127 := by omega
  generalize max m (-127) = y at *
  have a1 : r * y ≤ r * 127 := Int.mul_le_mul_of_nonneg_left e.2 h0
  have a2 : r * (-127) ≤ r * y := Int.mul_le_mul_of_nonneg_left e.1 h0
  omega
theorem wrap_id {n : Int} (h1 : -9223372036854775808 ≤ n) (h2 : n ≤ 9223372036854775807) : wrap64 n = n := IntWalk.wrap64_in n ⟨h1, h2⟩

/-- The next level. -/
def moveZ (rate m : Int) : Int := wrap64 (rate * max m (-127))
theorem moveZ_bd (rate m : Int) : -9223372036854775808 ≤ moveZ rate m ∧ moveZ rate m ≤ 9223372036854775807 := by unfold moveZ wrap64; omega
theorem moveD_bd {z : Int} (h : -9223372036854775808 ≤ z ∧ z ≤ 9223372036854775807) : -72624976668147842 ≤ z.tdiv 127 ∧ z.tdiv 127 ≤ 72624976668147842 := share_bd (by omega) (by omega) (by omega)
def nextL (rate l m : Int) : Int := max (-20000) (min 20000 (l + (moveZ rate m).tdiv 127))
theorem nextL_bd (rate l m : Int) : -20000 ≤ nextL rate l m ∧ nextL rate l m ≤ 20000 := by unfold nextL; omega
theorem nextL_near {rate l m : Int} (hl : -20000 ≤ l ∧ l ≤ 20000) (hm : -128 ≤ m ∧ m ≤ 127) (r0 : 0 ≤ rate) (r1 : rate ≤ 5000) : nextL rate l m - l ≤ rate ∧ l - nextL rate l m ≤ rate := by
  obtain ⟨a1, a2⟩ := times_bd r0 hm.1 hm.2
  unfold nextL moveZ
  rw [wrap_id (n := rate * max m (-127)) (by omega) (by omega)]
  have b := share_bd r0 a1 a2
  generalize (rate * max m (-127)).tdiv 127 = d at *
  omega

/-- The number in a Shift by a share. -/
def shiftOf (d : Dat) (sh : List Int) (k : Nat) : Int := if k < sh.length then d.lo + ((d.hi - d.lo) * sh.getD k 0).tdiv 255 else d.lo
theorem shiftOf_bd {d : Dat} {sh : List Int} (hs : ∀ s ∈ sh, 0 ≤ s ∧ s ≤ 255) (h : d.lo ≤ d.hi) (k : Nat) : d.lo ≤ shiftOf d sh k ∧ shiftOf d sh k ≤ d.hi := by
  unfold shiftOf
  split
  · rename_i hk
    have hm := hs sh[k] (List.getElem_mem _)
    have e : sh.getD k 0 = sh[k] := by simp [List.getD, hk]
    rw [e]
    have r0 : 0 ≤ d.hi - d.lo := by omega
    have a0 : 0 ≤ (d.hi - d.lo) * sh[k] := Int.mul_nonneg r0 hm.1
    have a1 : (d.hi - d.lo) * sh[k] ≤ (d.hi - d.lo) * 255 := Int.mul_le_mul_of_nonneg_left hm.2 r0
    have := part_bd r0 a0 (by omega)
    omega
  · omega

/-- What is asked of a gauge, its readings aside. -/
structure Sane (g : Gau) : Prop where
  err : 0 ≤ g.err ∧ g.err ≤ 5000
  dlen : 1 ≤ g.ds.length ∧ g.ds.length ≤ 8
  dat : ∀ i (h : i < g.ds.length), -5000 ≤ g.ds[i].lo ∧ g.ds[i].lo ≤ g.ds[i].hi ∧ g.ds[i].hi ≤ 5000
theorem GauGood.sane {g : Gau} (h : GauGood g) : Sane g := ⟨h.err, h.dlen, fun i hi => (h.dat i hi).2⟩
/-- A reading that came about by levels: at a place, with the number in the Shift of its datum, and an error. -/
def Came (g : Gau) (x : Int) (sh L : List Int) (r : Rdg) : Prop :=
  ∃ p : Nat, p < L.length ∧ r.tick = x + p ∧ (Sane g → ∃ er : Int, -g.err ≤ er ∧ er ≤ g.err ∧ r.value = L.getD p 0 + shiftOf (datumOf g r.tick) sh (dIdx g.ds r.tick g.ds.length) + er)

theorem datumOf_lohi {g : Gau} (h : Sane g) (t : Int) : (datumOf g t).lo ≤ (datumOf g t).hi := by
  have hl := h.dlen
  have h1 : dIdx g.ds t g.ds.length < g.ds.length := by rcases dIdx_lt g.ds t g.ds.length with h | h <;> omega
  have e : datumOf g t = g.ds[dIdx g.ds t g.ds.length] := by simp [datumOf, List.getD, h1]
  rw [e]; exact (h.dat _ h1).2.1
theorem truth_fold {g : Gau} (hg : GauGood g) {x : Int} {sh L : List Int} (hsh : ∀ s ∈ sh, 0 ≤ s ∧ s ≤ 255) (hL : Chain g.rate L) (i : Nat) (hi : i < L.length) :
    ∀ (l : List Rdg) (s : Int × Int), (∀ r ∈ l, Came g x sh L r) → s.1 ≤ L[i] → L[i] ≤ s.2 → (l.foldl (sayStep g (x + i)) s).1 ≤ L[i] ∧ L[i] ≤ (l.foldl (sayStep g (x + i)) s).2
  | [], s, _, h1, h2 => ⟨h1, h2⟩
  | r :: l, s, hr, h1, h2 => by
    refine truth_fold hg hsh hL i hi l _ (fun r' h => hr r' (List.mem_cons_of_mem _ h)) ?_ ?_
    all_goals
      obtain ⟨p, hp, ht, hv⟩ := hr r List.mem_cons_self
      obtain ⟨er, e1, e2, hv⟩ := hv hg.sane
      have eP : L.getD p 0 = L[p] := by simp [List.getD, hp]
      rw [eP] at hv
      have hs := shiftOf_bd hsh (datumOf_lohi hg.sane r.tick) (dIdx g.ds r.tick g.ds.length)
      have hd : L[p] - L[i] ≤ g.rate * awayOf (x + i) r ∧ L[i] - L[p] ≤ g.rate * awayOf (x + i) r := by
        unfold awayOf
        by_cases hpi : p ≤ i
        · obtain ⟨k, rfl⟩ : ∃ k, i = p + k := ⟨i - p, by omega⟩
          rw [if_pos (by omega), ht, show x + ((p + k : Nat) : Int) - (x + p) = k by omega]
          have := hL.far hg.rate.1 hg.rate.2 p k hi
          omega
        · obtain ⟨k, rfl⟩ : ∃ k, p = i + k := ⟨p - i, by omega⟩
          rw [if_neg (by omega), ht, show x + ((i + k : Nat) : Int) - (x + i) = k by omega]
          have := hL.far hg.rate.1 hg.rate.2 i k hp
          omega
      unfold sayStep
      simp only
      omega
theorem mem_takeWhile {p : Rdg → Bool} {l : List Rdg} {r : Rdg} (h : r ∈ l.takeWhile p) : r ∈ l := (List.takeWhile_sublist p).subset h
/-- What a gauge says of levels by which its readings came about. -/
theorem truth_says {g : Gau} (hg : (gaugeP g).2.2 = 0) {x : Int} {sh L : List Int} (hsh : ∀ s ∈ sh, 0 ≤ s ∧ s ≤ 255) (hL : Chain g.rate L) (hc : ∀ r ∈ g.rs, Came g x sh L r) (i : Nat) (hi : i < L.length)
    (hx : 0 ≤ x ∧ x ≤ 199800) (hl : L.length ≤ 150) (now : Int) (hn : 0 ≤ now ∧ now ≤ 200000) :
    (g.rs.takeWhile (fun r => decide (r.tick ≤ now)) = [] ∧ saysP g (x + i) now = ((0, 0), 4)) ∨ (g.rs.takeWhile (fun r => decide (r.tick ≤ now)) ≠ [] ∧ (saysP g (x + i) now).2 = 0 ∧ (saysP g (x + i) now).1.1 ≤ L[i] ∧ L[i] ≤ (saysP g (x + i) now).1.2) := by
  have hgd := gauGood hg
  have e1 : inB (x + i) 0 200000 = true := inB_iff.2 (by omega)
  have e2 : inB now 0 200000 = true := inB_iff.2 hn
  have e : saysP g (x + i) now = sayP g (x + i) now := by
    rw [saysP_eq, if_neg (by simp [hg]), if_neg (by simp [e1, e2])]
  rw [e]
  unfold sayP sayOf
  have hf := truth_fold hgd hsh hL i hi (g.rs.takeWhile fun r => decide (r.tick ≤ now)) (-20000, 20000) (fun r h => hc r (mem_takeWhile h)) (hL.bd i hi).1 (hL.bd i hi).2
  by_cases h0 : g.rs.takeWhile (fun r => decide (r.tick ≤ now)) = []
  · exact .inl ⟨h0, by rw [if_pos h0]⟩
  · refine .inr ⟨h0, ?_⟩
    unfold sayFold
    rw [if_neg h0, if_neg (by omega)]
    exact ⟨rfl, hf⟩
/-- With more readings. -/
theorem truth_both {g : Gau} (hg : (gaugeP g).2.2 = 0) {x : Int} {sh L : List Int} (hsh : ∀ s ∈ sh, 0 ≤ s ∧ s ≤ 255) (hL : Chain g.rate L) (hc : ∀ r ∈ g.rs, Came g x sh L r) (i : Nat) (hi : i < L.length)
    (hx : 0 ≤ x ∧ x ≤ 199800) (hl : L.length ≤ 150) {now then_ : Int} (hn : 0 ≤ now) (hnt : now ≤ then_) (ht : then_ ≤ 200000) {a b : (Int × Int) × Int} (ha : saysP g (x + i) now = a) (hb : saysP g (x + i) then_ = b) :
    (a.2 = 4 ∧ b.2 = 4) ∨ (a.2 = 4 ∧ b.2 = 0 ∧ b.1.1 ≤ L[i] ∧ L[i] ≤ b.1.2) ∨
      (a.2 = 0 ∧ b.2 = 0 ∧ (a.1.1 ≤ L[i] ∧ L[i] ≤ a.1.2) ∧ (b.1.1 ≤ L[i] ∧ L[i] ≤ b.1.2) ∧ a.1.1 ≤ b.1.1 ∧ b.1.2 ≤ a.1.2) := by
  have h1 := truth_says hg hsh hL hc i hi hx hl now ⟨hn, by omega⟩
  have h2 := truth_says hg hsh hL hc i hi hx hl then_ ⟨by omega, ht⟩
  have hk := knowsP g (x + i) hnt
  obtain ⟨s, hs⟩ := takeWhile_more (l := g.rs) hnt
  rw [ha] at h1 hk
  rw [hb] at h2 hk
  rcases h1 with ⟨n1, rfl⟩ | ⟨n1, h1⟩
  · rcases h2 with ⟨n2, rfl⟩ | ⟨n2, h2⟩
    · exact .inl ⟨rfl, rfl⟩
    · exact .inr (.inl ⟨rfl, h2⟩)
  · rcases h2 with ⟨n2, rfl⟩ | ⟨n2, h2⟩
    · rw [hs] at n2
      exact absurd (List.append_eq_nil_iff.1 n2).1 n1
    · have := (hk h2.1).1 h1.1
      exact .inr (.inr ⟨h1.1, h2.1, h1.2, h2.2, this.1, this.2.1⟩)
end Go.Proofs.Ytfjankkkeehioaa
