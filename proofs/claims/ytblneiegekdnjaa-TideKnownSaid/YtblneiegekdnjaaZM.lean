/- Tide, part ZM: periods, shifted constituents, the highest ticks: mathematics alone. -/
import Derived.Test.YtblneiegekdnjaaTN
set_option linter.all false
namespace Go.Proofs.Ytblneiegekdnjaa
open Go.RowKit

/-- After how many ticks a constituent begins again; and a table. -/
def ownP (c : Con) : Nat := (cyc c).toNat / Nat.gcd (cyc c).toNat c.step.toNat
def perL : Nat → List Con → Int × Int
  | p, [] => ((p : Int), 0)
  | p, c :: r => if 1000000000 < p * (ownP c / Nat.gcd p (ownP c)) then (0, 3) else perL (p * (ownP c / Nat.gcd p (ownP c))) r
theorem ownP_bd {c : Con} (h : ConGood c) : 1 ≤ ownP c ∧ ownP c ≤ 48000 := by
  have hc := cyc_bd h
  have h1 : 0 < (cyc c).toNat := by omega
  unfold ownP
  refine ⟨Nat.div_pos (Nat.gcd_le_left _ h1) (Nat.gcd_pos_of_pos_left _ h1), ?_⟩
  exact Nat.le_trans (Nat.div_le_self _ _) (by omega)
theorem ownP_dvd {c : Con} (h : ConGood c) {n : Nat} (hd : ownP c ∣ n) : cyc c ∣ c.step * n := by
  have hc := cyc_bd h
  have hst := h.step1
  obtain ⟨k, rfl⟩ := hd
  have e1 : ((cyc c).toNat : Int) = cyc c := Int.toNat_of_nonneg (by omega)
  have e2 : (c.step.toNat : Int) = c.step := Int.toNat_of_nonneg (by omega)
  have key : (cyc c).toNat ∣ c.step.toNat * (ownP c * k) := by
    unfold ownP
    obtain ⟨s, hs⟩ := Nat.gcd_dvd_right (cyc c).toNat c.step.toNat
    obtain ⟨m, hm⟩ := Nat.gcd_dvd_left (cyc c).toNat c.step.toNat
    have hg : 0 < Nat.gcd (cyc c).toNat c.step.toNat := Nat.gcd_pos_of_pos_left _ (by omega)
    generalize Nat.gcd (cyc c).toNat c.step.toNat = g at *
    generalize (cyc c).toNat = C at *
    generalize c.step.toNat = S at *
    subst hs hm
    rw [Nat.mul_div_cancel_left _ hg]
    exact ⟨s * k, by simp only [Nat.mul_assoc, Nat.mul_comm, Nat.mul_left_comm]⟩
  have := Int.natCast_dvd_natCast.2 key
  rw [e1, Int.natCast_mul, e2] at this
  exact this
theorem perL_dvd : ∀ (l : List Con) (p : Nat), 0 < p → (∀ c ∈ l, ConGood c) → (perL p l).2 = 0 → ∃ n : Nat, (perL p l).1 = n ∧ 0 < n ∧ p ∣ n ∧ ∀ c ∈ l, ownP c ∣ n
  | [], p, hp, _, _ => ⟨p, rfl, hp, Nat.dvd_refl _, by simp⟩
  | c :: r, p, hp, hg, h => by
    have ho := ownP_bd (hg c List.mem_cons_self)
    unfold perL at h ⊢
    by_cases hb : 1000000000 < p * (ownP c / Nat.gcd p (ownP c))
    · simp [hb] at h
    · simp only [hb, if_false] at h ⊢
      have hgp : 0 < Nat.gcd p (ownP c) := Nat.gcd_pos_of_pos_left _ hp
      have hq : 0 < ownP c / Nat.gcd p (ownP c) := Nat.div_pos (Nat.gcd_le_right _ (by omega)) hgp
      obtain ⟨n, h1, h2, h3, h4⟩ := perL_dvd r _ (Nat.mul_pos hp hq) (fun c hc => hg c (List.mem_cons_of_mem _ hc)) h
      refine ⟨n, h1, h2, Nat.dvd_trans (Nat.dvd_mul_right _ _) h3, ?_⟩
      intro x hx
      rcases List.mem_cons.1 hx with rfl | hx
      · refine Nat.dvd_trans ?_ h3
        have : ownP x ∣ p * (ownP x / Nat.gcd p (ownP x)) := by
          obtain ⟨m, hm⟩ := Nat.gcd_dvd_left p (ownP x)
          obtain ⟨o, ho'⟩ := Nat.gcd_dvd_right p (ownP x)
          generalize Nat.gcd p (ownP x) = g at *
          rw [ho', Nat.mul_div_cancel_left _ hgp, hm]
          exact ⟨m, by simp only [Nat.mul_assoc, Nat.mul_comm, Nat.mul_left_comm]⟩
        exact this
      · exact h4 x hx
theorem placeOf_period {c : Con} (h : ConGood c) {n : Nat} (hd : ownP c ∣ n) (t : Int) : placeOf c (t + n) = placeOf c t := by
  obtain ⟨k, hk⟩ := ownP_dvd h hd
  unfold placeOf
  rw [Int.mul_add, hk, ← Int.add_assoc, Int.add_mul_emod_self_left]

/-- The reference multiplies in another order. -/
theorem per_comm (p o : Nat) (hp : 0 < p) : p / Nat.gcd p o * o = p * (o / Nat.gcd p o) := by
  have hg : 0 < Nat.gcd p o := Nat.gcd_pos_of_pos_left _ hp
  obtain ⟨m, hm⟩ := Nat.gcd_dvd_left p o
  obtain ⟨k, hk⟩ := Nat.gcd_dvd_right p o
  generalize Nat.gcd p o = g at *
  subst hm hk
  rw [Nat.mul_div_cancel_left _ hg, Nat.mul_div_cancel_left _ hg]
  simp only [Nat.mul_assoc, Nat.mul_comm, Nat.mul_left_comm]
/-- A constituent, one tick later. -/
def shiftC (c : Con) : Con := { c with off := (c.off + c.step) % cyc c }
theorem placeOf_shift (c : Con) (t : Int) : placeOf (shiftC c) t = placeOf c (t + 1) := by
  have e : cyc (shiftC c) = cyc c := rfl
  unfold placeOf
  rw [e]
  show ((c.off + c.step) % cyc c + c.step * t) % cyc c = _
  rw [Int.emod_add_emod, Int.mul_add, Int.mul_one]
  congr 1; omega
theorem conErr_zero {before : List (List UInt8)} {c : Con} (h1 : nameB c.nm = true) (h2 : c.nm ∉ before) (h3 : ConGood c) : conErr before c = 0 := by
  obtain ⟨g1, g2, gh, g3, g4, g5, g6, g7, g8, g9, g10⟩ := h3
  have e1 : inB c.hs.length 2 48 = true := inB_iff.2 ⟨by omega, by omega⟩
  have e2 : heightsB c.hs = true := by
    unfold heightsB
    rw [List.all_eq_true]
    intro x hx
    obtain ⟨i, hi, rfl⟩ := List.getElem_of_mem hx
    exact inB_iff.2 (gh i hi)
  have e3 : numsB c = true := by
    unfold numsB
    rw [inB_iff.2 ⟨g3, g4⟩, inB_iff.2 ⟨g5, g6⟩, inB_iff.2 ⟨g7, g8⟩, inB_iff.2 ⟨g9, g10⟩]; rfl
  unfold conErr
  rw [h1, e1, e2, e3]
  simp [h2]
theorem eachP_all {f : Nat → Int} {n : Nat} : ∀ {k}, (∀ i, k ≤ i → i < k + n → f i = 0) → eachP f k n = (0, 0) := by
  induction n with
  | zero => intro k _; rfl
  | succ n ih =>
    intro k h
    unfold eachP
    rw [if_neg (by rw [h k (Nat.le_refl _) (by omega)]; decide)]
    exact ih (fun i h1 h2 => h i (by omega) (by omega))
theorem checkP_good {mean : Int} {cs : List Con} (h : (checkP mean cs).2 = 0) : inB mean (-20000) 20000 = true ∧ cs.length ≤ 12 ∧ ∀ i (hi : i < cs.length), nameB cs[i].nm = true ∧ cs[i].nm ∉ (cs.take i).map Con.nm ∧ ConGood cs[i] := by
  unfold checkP at h
  split at h
  · cases h
  rename_i h1
  split at h
  · cases h
  rename_i h2
  refine ⟨by simpa using h1, by omega, fun i hi => ?_⟩
  have := each_all h i (Nat.zero_le _) (by omega)
  unfold conAt at this
  rw [show cs.getD i default = cs[i] by simp [List.getD, hi]] at this
  exact conGood_of this
theorem checkP_zero {mean : Int} {cs : List Con} (h1 : inB mean (-20000) 20000 = true) (h2 : cs.length ≤ 12) (h3 : ∀ i (hi : i < cs.length), nameB cs[i].nm = true ∧ cs[i].nm ∉ (cs.take i).map Con.nm ∧ ConGood cs[i]) : checkP mean cs = (0, 0) := by
  unfold checkP
  rw [if_neg (by rw [h1]; decide), if_neg (by omega)]
  refine eachP_all fun i _ hi => ?_
  have hi : i < cs.length := by omega
  unfold conAt
  rw [show cs.getD i default = cs[i] by simp [List.getD, hi]]
  obtain ⟨a, b, c⟩ := h3 i hi
  exact conErr_zero a b c
theorem shift_good {c : Con} (h : ConGood c) : ConGood (shiftC c) := by
  have hc := cyc_bd h
  obtain ⟨g1, g2, gh, g3, g4, g5, g6, g7, g8, g9, g10⟩ := h
  refine ⟨g1, g2, gh, g3, g4, Int.emod_nonneg _ (by omega), ?_, g7, g8, g9, g10⟩
  have := Int.emod_lt_of_pos (c.off + c.step) (show 0 < cyc c by omega)
  show (c.off + c.step) % cyc c ≤ cyc c - 1
  omega
/-- A table whose constituents have other numbers, but the same names. -/
theorem checkP_map {mean : Int} {cs : List Con} {f : Nat → Con → Con} (hn : ∀ i c, (f i c).nm = c.nm) (hg : ∀ i c, ConGood c → ConGood (f i c)) (h : (checkP mean cs).2 = 0) : checkP mean (cs.mapIdx f) = (0, 0) := by
  obtain ⟨h1, h2, h3⟩ := checkP_good h
  refine checkP_zero h1 (by simpa using h2) fun i hi => ?_
  rw [List.length_mapIdx] at hi
  obtain ⟨a, b, c⟩ := h3 i hi
  rw [List.getElem_mapIdx]
  refine ⟨by rw [hn]; exact a, ?_, hg _ _ c⟩
  rw [hn]
  intro hm
  refine b ?_
  rw [List.mem_map] at hm ⊢
  obtain ⟨x, hx, hxe⟩ := hm
  obtain ⟨k, hk, rfl⟩ := List.mem_take_iff_getElem.1 hx
  rw [List.getElem_mapIdx, hn] at hxe
  rw [List.length_mapIdx] at hk
  exact ⟨cs[k], List.mem_take_iff_getElem.2 ⟨k, by omega, rfl⟩, hxe⟩
theorem levelAt_congr {mean : Int} {cs ds : List Con} {s t : Int} (hl : cs.length = ds.length) (h : ∀ i (hi : i < cs.length) (hj : i < ds.length), partAt ds[i] t = partAt cs[i] s) : levelAt mean ds t = levelAt mean cs s := by
  unfold levelAt
  have key : ∀ (cs ds : List Con) (x : Int × Int), cs.length = ds.length → (∀ i (hi : i < cs.length) (hj : i < ds.length), partAt ds[i] t = partAt cs[i] s) → ds.foldl (fun s c => addP c t s) x = cs.foldl (fun r c => addP c s r) x := by
    intro cs
    induction cs with
    | nil => intro ds x hl _; cases ds with | nil => rfl | cons => simp at hl
    | cons c r ih =>
      intro ds x hl h
      cases ds with
      | nil => simp at hl
      | cons d q =>
        rw [List.foldl_cons, List.foldl_cons]
        have e : addP d t x = addP c s x := by unfold addP; rw [show partAt d t = partAt c s from h 0 (by simp) (by simp)]
        rw [e]
        exact ih q _ (by simpa using hl) (fun i hi hj => h (i + 1) (by simp; omega) (by simp; omega))
  exact key cs ds _ hl h
theorem partAt_place {c d : Con} {s t : Int} (h1 : d.hs = c.hs) (h2 : d.den = c.den) (h3 : d.slack = c.slack) (hp : placeOf d t = placeOf c s) : partAt d t = partAt c s := by
  unfold partAt partP heightN
  rw [hp, h1, h2, h3]
theorem levelAt_shift (mean : Int) (cs : List Con) (t : Int) : levelAt mean (cs.mapIdx fun _ c => shiftC c) t = levelAt mean cs (t + 1) :=
  levelAt_congr (by simp) fun i hi hj => by
    rw [List.getElem_mapIdx]
    exact partAt_place rfl rfl rfl (placeOf_shift _ _)
theorem levelAt_period {mean : Int} {cs : List Con} (hg : ∀ c ∈ cs, ConGood c) {n : Nat} (hd : ∀ c ∈ cs, ownP c ∣ n) (t : Int) : levelAt mean cs (t + n) = levelAt mean cs t :=
  levelAt_congr rfl fun i hi _ => partAt_place rfl rfl rfl (placeOf_period (hg _ (List.getElem_mem _)) (hd _ (List.getElem_mem _)) t)
/-- The greatest level that is sure; the ticks at which it can be highest. -/
def sureOf (L : List (Int × Int)) : Int := L.foldl (fun m s => max m s.1) (-9223372036854775808)
def highK (L : List (Int × Int)) (x : Int) : Nat → List Int
  | 0 => []
  | k + 1 => highK L x k ++ (if sureOf L ≤ (L.getD k (0, 0)).2 then [x + k] else [])
theorem sure_le : ∀ (L : List (Int × Int)) (m b : Int), L.foldl (fun m s => max m s.1) m ≤ b ↔ m ≤ b ∧ ∀ s ∈ L, s.1 ≤ b
  | [], m, b => by simp
  | s :: r, m, b => by
    rw [List.foldl_cons, sure_le r]
    constructor
    · rintro ⟨h1, h2⟩
      exact ⟨by omega, fun x hx => by rcases List.mem_cons.1 hx with rfl | h; omega; exact h2 x h⟩
    · rintro ⟨h1, h2⟩
      exact ⟨by have := h2 s List.mem_cons_self; omega, fun x hx => h2 x (List.mem_cons_of_mem _ hx)⟩
theorem sureOf_le (L : List (Int × Int)) {b : Int} (hb : -9223372036854775808 ≤ b) : sureOf L ≤ b ↔ (L.all fun s => decide (s.1 ≤ b)) = true := by
  unfold sureOf
  rw [sure_le]
  simp [hb]
theorem sureOf_snoc (L : List (Int × Int)) (k : Nat) (h : k < L.length) : sureOf (L.take (k + 1)) = max (sureOf (L.take k)) L[k].1 := by
  unfold sureOf; rw [List.take_succ_eq_append_getElem h, List.foldl_append]; rfl
theorem highK_len (L : List (Int × Int)) (x : Int) : ∀ k, (highK L x k).length ≤ k
  | 0 => by simp [highK]
  | k + 1 => by
    have := highK_len L x k
    unfold highK
    split <;> simp <;> omega
theorem highK_mem (L : List (Int × Int)) (x : Int) : ∀ (k : Nat) (t : Int), t ∈ highK L x k ↔ ∃ i, i < k ∧ t = x + i ∧ sureOf L ≤ (L.getD i (0, 0)).2
  | 0, t => by simp [highK]
  | k + 1, t => by
    unfold highK
    rw [List.mem_append, highK_mem L x k t]
    constructor
    · rintro (⟨i, h1, h2, h3⟩ | h)
      · exact ⟨i, by omega, h2, h3⟩
      · split at h
        · rename_i hs; rw [List.mem_singleton] at h; exact ⟨k, by omega, h, hs⟩
        · cases h
    · rintro ⟨i, h1, h2, h3⟩
      by_cases e : i = k
      · subst e; right; rw [if_pos h3]; simp [h2]
      · exact .inl ⟨i, by omega, h2, h3⟩
theorem highK_asc (L : List (Int × Int)) (x : Int) : ∀ (k : Nat), (highK L x k).Pairwise (· < ·)
  | 0 => by simp [highK]
  | k + 1 => by
    unfold highK
    rw [List.pairwise_append]
    refine ⟨highK_asc L x k, by split <;> simp, fun a ha b hb => ?_⟩
    obtain ⟨i, h1, h2, _⟩ := (highK_mem L x k a).1 ha
    split at hb
    · rw [List.mem_singleton] at hb; omega
    · cases hb
/-- An integer that differs from a quotient by a number at most. -/
theorem bet_near {h d s x : Int} (hd : 1 ≤ d) (h1 : x * d - h ≤ s * d) (h2 : h - x * d ≤ s * d) : h / d - s ≤ x ∧ x ≤ upq h d + s := by
  have e1 : h ≤ (x + s) * d := by rw [Int.add_mul]; omega
  have e2 : -h ≤ (s - x) * d := by rw [Int.sub_mul]; omega
  have g1 : h / d ≤ x + s := Int.ediv_le_of_le_mul (by omega) e1
  have g2 : (-h) / d ≤ s - x := Int.ediv_le_of_le_mul (by omega) e2
  unfold upq
  omega
theorem bet_tdiv {h d s : Int} (hd : 1 ≤ d) (hs : 0 ≤ s) : h / d - s ≤ h.tdiv d ∧ h.tdiv d ≤ upq h d + s := by
  by_cases g : h.tmod d < 0
  · have e := tdiv_neg h d (by omega) g
    have e2 : h % d ≠ 0 := fun h0 => by have := (tmod_zero h d).2 h0; omega
    have e3 := upq_ne h d e2 (by omega)
    omega
  · have e := tdiv_pos h d (by omega) g
    have : h / d ≤ upq h d := by
      by_cases e2 : h % d = 0
      · have := upq_eq h d e2; omega
      · have := upq_ne h d e2 (by omega); omega
    omega
/-- A constituent with a greater slack. -/
def wideC (i : Nat) (c : Con) : Con := { c with slack := min 1000 (c.slack + 1 + i) }
theorem wideC_nm (i : Nat) (c : Con) : (wideC i c).nm = c.nm := rfl
theorem wideC_good (i : Nat) (c : Con) (h : ConGood c) : ConGood (wideC i c) := by
  obtain ⟨g1, g2, gh, g3, g4, g5, g6, g7, g8, g9, g10⟩ := h
  refine ⟨g1, g2, gh, g3, g4, g5, g6, g7, g8, ?_, ?_⟩
  · show 0 ≤ min 1000 (c.slack + 1 + (i : Int)); omega
  · show min 1000 (c.slack + 1 + (i : Int)) ≤ 1000; omega
theorem wideC_part (i : Nat) (c : Con) (h : ConGood c) (t : Int) : (partAt (wideC i c) t).1 ≤ (partAt c t).1 ∧ (partAt c t).2 ≤ (partAt (wideC i c) t).2 := by
  have h9 := h.slack2
  have e : heightN (wideC i c) = heightN c := rfl
  have e2 : placeOf (wideC i c) t = placeOf c t := rfl
  unfold partAt partP
  rw [e, e2, show (wideC i c).den = c.den from rfl, show (wideC i c).slack = min 1000 (c.slack + 1 + (i : Int)) from rfl]
  constructor
  · show _ - _ ≤ _ - _; omega
  · show _ + _ ≤ _ + _; omega
theorem levelAt_within {mean : Int} {cs ds : List Con} {t : Int} (hl : cs.length = ds.length) (h : ∀ i (hi : i < cs.length) (hj : i < ds.length), (partAt ds[i] t).1 ≤ (partAt cs[i] t).1 ∧ (partAt cs[i] t).2 ≤ (partAt ds[i] t).2) :
    (levelAt mean ds t).1 ≤ (levelAt mean cs t).1 ∧ (levelAt mean cs t).2 ≤ (levelAt mean ds t).2 := by
  unfold levelAt
  have key : ∀ (cs ds : List Con) (x y : Int × Int), y.1 ≤ x.1 → x.2 ≤ y.2 → cs.length = ds.length → (∀ i (hi : i < cs.length) (hj : i < ds.length), (partAt ds[i] t).1 ≤ (partAt cs[i] t).1 ∧ (partAt cs[i] t).2 ≤ (partAt ds[i] t).2) →
      (ds.foldl (fun s c => addP c t s) y).1 ≤ (cs.foldl (fun s c => addP c t s) x).1 ∧ (cs.foldl (fun s c => addP c t s) x).2 ≤ (ds.foldl (fun s c => addP c t s) y).2 := by
    intro cs
    induction cs with
    | nil => intro ds x y h1 h2 hl _; cases ds with | nil => exact ⟨h1, h2⟩ | cons => simp at hl
    | cons c r ih =>
      intro ds x y h1 h2 hl h
      cases ds with
      | nil => simp at hl
      | cons d q =>
        rw [List.foldl_cons, List.foldl_cons]
        have e : (partAt d t).1 ≤ (partAt c t).1 ∧ (partAt c t).2 ≤ (partAt d t).2 := h 0 (by simp) (by simp)
        refine ih q _ _ ?_ ?_ (by simpa using hl) (fun i hi hj => h (i + 1) (by simp; omega) (by simp; omega))
        · unfold addP; omega
        · unfold addP; omega
  exact key cs ds _ _ (Int.le_refl _) (Int.le_refl _) hl h
theorem levelAt_wide {mean : Int} {cs : List Con} (hg : ∀ c ∈ cs, ConGood c) (t : Int) : (levelAt mean (cs.mapIdx wideC) t).1 ≤ (levelAt mean cs t).1 ∧ (levelAt mean cs t).2 ≤ (levelAt mean (cs.mapIdx wideC) t).2 :=
  levelAt_within (by simp) fun i hi hj => by
    rw [List.getElem_mapIdx]
    exact wideC_part i _ (hg _ (List.getElem_mem _)) t
end Go.Proofs.Ytblneiegekdnjaa
