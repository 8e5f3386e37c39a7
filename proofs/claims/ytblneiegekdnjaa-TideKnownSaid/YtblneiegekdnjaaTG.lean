/- Tide, part G: spans, parts, places, levels. -/
import Derived.Test.YtblneiegekdnjaaTF
set_option linter.all false
namespace Go.Proofs.Ytblneiegekdnjaa
open Go.RowKit

/-! ### The methods of spans -/

theorem between_at (l h : Int) (w : World) :
    Calls Try.prog 109 #[.int .i64 l, .int .i64 h] w fun e w' => e = .returned (.agg #[.int .i64 l, .int .i64 h]) ∧ w' = w.alloc (.cells #[.int .i64 l, .int .i64 h] 116) := by
  go_enter Try.func109, Try.ntmps109
  go_wp2
  exact bodyPost_ret (v := .agg #[.int .i64 l, .int .i64 h]) (by simp [results, Try.results109, go_sem]) rfl ⟨rfl, rfl⟩
theorem between_any (l h : Int) (w : World) :
    Calls Try.prog 109 #[.int .i64 l, .int .i64 h] w fun e w' => e = .returned (.agg #[.int .i64 l, .int .i64 h]) ∧ Below w.heap.size w w' :=
  (between_at l h w).mono fun e w' ⟨he, hw⟩ => ⟨he, by rw [hw]; exact (Below.refl _ _).alloc (Nat.le_refl _) _⟩

/-- Numbers small enough that two of them can be added. -/
def Half (x : Int) : Prop := -4611686018427387904 ≤ x ∧ x ≤ 4611686018427387903

theorem plus_any (a b c d : Int) (w : World) (h1 : Half a) (h2 : Half b) (h3 : Half c) (h4 : Half d) :
    Calls Try.prog 96 #[.agg #[.int .i64 a, .int .i64 b], .agg #[.int .i64 c, .int .i64 d]] w fun e w' => e = .returned (.agg #[.int .i64 (a + c), .int .i64 (b + d)]) ∧ Below w.heap.size w w' := by
  obtain ⟨h1, h1'⟩ := h1; obtain ⟨h2, h2'⟩ := h2; obtain ⟨h3, h3'⟩ := h3; obtain ⟨h4, h4'⟩ := h4
  go_enter Try.func96, Try.ntmps96
  go_wp2_with (go_at_call 109; refine (between_at _ _ _).mono ?_; rintro e w' ⟨rfl, rfl⟩)
  exact bodyPost_ret (v := .agg #[.int .i64 (a + c), .int .i64 (b + d)]) (by simp [results, Try.results96, go_sem]) rfl ⟨rfl, by repeat (first | exact Below.refl _ _ | refine Below.alloc ?_ (by simp <;> omega) _ | refine Below.drew ?_ | refine below_drewN ?_ _)⟩
theorem less_any (a b c d : Int) (w : World) (h1 : Half a) (h2 : Half b) (h3 : Half c) (h4 : Half d) :
    Calls Try.prog 89 #[.agg #[.int .i64 a, .int .i64 b], .agg #[.int .i64 c, .int .i64 d]] w fun e w' => e = .returned (.agg #[.int .i64 (a - d), .int .i64 (b - c)]) ∧ Below w.heap.size w w' := by
  obtain ⟨h1, h1'⟩ := h1; obtain ⟨h2, h2'⟩ := h2; obtain ⟨h3, h3'⟩ := h3; obtain ⟨h4, h4'⟩ := h4
  go_enter Try.func89, Try.ntmps89
  go_wp2_with (go_at_call 109; refine (between_at _ _ _).mono ?_; rintro e w' ⟨rfl, rfl⟩)
  exact bodyPost_ret (v := .agg #[.int .i64 (a - d), .int .i64 (b - c)]) (by simp [results, Try.results89, go_sem]) rfl ⟨rfl, by repeat (first | exact Below.refl _ _ | refine Below.alloc ?_ (by simp <;> omega) _ | refine Below.drew ?_ | refine below_drewN ?_ _)⟩
theorem wider_any (a b c : Int) (w : World) (h1 : Half a) (h2 : Half b) (h3 : Half c) :
    Calls Try.prog 103 #[.agg #[.int .i64 a, .int .i64 b], .int .i64 c] w fun e w' => e = .returned (.agg #[.int .i64 (a - c), .int .i64 (b + c)]) ∧ Below w.heap.size w w' := by
  obtain ⟨h1, h1'⟩ := h1; obtain ⟨h2, h2'⟩ := h2; obtain ⟨h3, h3'⟩ := h3
  go_enter Try.func103, Try.ntmps103
  go_wp2_with (go_at_call 109; refine (between_at _ _ _).mono ?_; rintro e w' ⟨rfl, rfl⟩)
  exact bodyPost_ret (v := .agg #[.int .i64 (a - c), .int .i64 (b + c)]) (by simp [results, Try.results103, go_sem]) rfl ⟨rfl, by repeat (first | exact Below.refl _ _ | refine Below.alloc ?_ (by simp <;> omega) _ | refine Below.drew ?_ | refine below_drewN ?_ _)⟩

/-! ### Quotients -/

theorem tdiv_neg (n d : Int) (hd : 0 < d) (h : n.tmod d < 0) : n.tdiv d - 1 = n / d := by
  have e1 := Int.tmod_add_mul_tdiv n d
  have e2 := Int.emod_add_mul_ediv n d
  have b1 := Int.emod_nonneg n (b := d) (by omega)
  have b2 := Int.emod_lt_of_pos n hd
  have b3 : -d < n.tmod d := by have := Int.tmod_lt_of_pos (-n) hd; rw [Int.neg_tmod] at this; omega
  have key : d * (n.tdiv d - n / d) = n % d - n.tmod d := by rw [Int.mul_sub]; omega
  by_cases hlt : n.tdiv d - n / d ≤ 0
  · have := Int.mul_nonpos_of_nonneg_of_nonpos (show 0 ≤ d by omega) hlt
    omega
  · by_cases hgt : n.tdiv d - n / d ≥ 2
    · have := Int.mul_le_mul_of_nonneg_left hgt (show 0 ≤ d by omega)
      omega
    · omega
theorem tdiv_pos (n d : Int) (hd : 0 < d) (h : ¬ n.tmod d < 0) : n.tdiv d = n / d := by
  have e1 := Int.tmod_add_mul_tdiv n d
  have e2 := Int.emod_add_mul_ediv n d
  have b1 := Int.emod_nonneg n (b := d) (by omega)
  have b2 := Int.emod_lt_of_pos n hd
  have b3 : n.tmod d < d := Int.tmod_lt_of_pos n hd
  have key : d * (n.tdiv d - n / d) = n % d - n.tmod d := by rw [Int.mul_sub]; omega
  by_cases hlt : n.tdiv d - n / d ≤ -1
  · have := Int.mul_le_mul_of_nonneg_left hlt (show 0 ≤ d by omega)
    omega
  · by_cases hgt : n.tdiv d - n / d ≥ 1
    · have := Int.mul_le_mul_of_nonneg_left hgt (show 0 ≤ d by omega)
      omega
    · omega
theorem tmod_zero (n d : Int) : n.tmod d = 0 ↔ n % d = 0 := by
  rw [← Int.dvd_iff_tmod_eq_zero, ← Int.dvd_iff_emod_eq_zero]
/-- The quotient, rounded up. -/
def upq (n d : Int) : Int := -((-n) / d)
theorem upq_eq (n d : Int) (h : n % d = 0) : upq n d = n / d := by
  unfold upq; rw [Int.neg_ediv_of_dvd (Int.dvd_of_emod_eq_zero h)]; omega
theorem upq_ne (n d : Int) (h : n % d ≠ 0) (hd : 0 < d) : upq n d = n / d + 1 := by
  unfold upq
  have e1 := Int.emod_add_mul_ediv n d
  have e2 := Int.emod_add_mul_ediv (-n) d
  have b1 := Int.emod_nonneg n (b := d) (by omega)
  have b2 := Int.emod_lt_of_pos n hd
  have b3 := Int.emod_nonneg (-n) (b := d) (by omega)
  have b4 := Int.emod_lt_of_pos (-n) hd
  have key : d * (n / d + (-n) / d) = -(n % d + (-n) % d) := by rw [Int.mul_add]; omega
  by_cases hlt : n / d + (-n) / d ≤ -2
  · have := Int.mul_le_mul_of_nonneg_left hlt (show 0 ≤ d by omega)
    omega
  · by_cases hgt : n / d + (-n) / d ≥ 0
    · have := Int.mul_nonneg (show 0 ≤ d by omega) hgt
      omega
    · omega

theorem ret_agg2 {a b c d : Int} (h : a = b) (k : c = d) : Ending.returned (.agg #[.int .i64 a, .int .i64 c]) = Ending.returned (.agg #[.int .i64 b, .int .i64 d]) := by rw [h, k]
theorem half_div {n d : Int} (h : Half n) (hd : 1 ≤ d) : Half (n / d) := by
  obtain ⟨h1, h2⟩ := h
  refine ⟨(Int.le_ediv_iff_mul_le (by omega)).2 (by omega), ?_⟩
  by_cases h : 0 ≤ n
  · exact Int.le_trans (Int.ediv_le_self d h) (by omega)
  · exact Int.le_trans (Int.ediv_nonpos_of_nonpos_of_neg (by omega) (by omega)) (by omega)
theorem half_upq {n d : Int} (h : -4611686018427387903 ≤ n ∧ n ≤ 4611686018427387903) (hd : 1 ≤ d) : Half (upq n d) := by
  obtain ⟨h1, h2⟩ := half_div (n := -n) (d := d) ⟨by omega, by omega⟩ hd
  have h3 : (-4611686018427387903 : Int) ≤ (-n) / d := (Int.le_ediv_iff_mul_le (by omega)).2 (by omega)
  unfold upq
  exact ⟨by omega, by omega⟩
theorem ret_i {a b : Int} (h : a = b) : Ending.returned (.int .i64 a) = .returned (.int .i64 b) := by rw [h]
theorem tdiv_bds (n d : Int) (hn : Half n) (hd : 1 ≤ d) : -4611686018427387904 ≤ n.tdiv d ∧ n.tdiv d ≤ 4611686018427387905 := by
  obtain ⟨h1, h2⟩ := hn
  have b1 : -4611686018427387904 ≤ n / d := (Int.le_ediv_iff_mul_le (by omega)).2 (by
    have : (-4611686018427387904) * d ≤ (-4611686018427387904) * 1 := Int.mul_le_mul_of_nonpos_left (by omega) hd
    omega)
  have b2 : n / d ≤ 4611686018427387904 := by
    by_cases h : 0 ≤ n
    · exact Int.le_trans (Int.ediv_le_self d h) (by omega)
    · exact Int.le_trans (Int.ediv_nonpos_of_nonpos_of_neg (by omega) (by omega)) (by omega)
  by_cases g1 : n.tmod d < 0
  · have := tdiv_neg n d (by omega) g1; omega
  · have := tdiv_pos n d (by omega) g1; omega
theorem roundDown_any (n d : Int) (w : World) (hn : Half n) (hd : 1 ≤ d) :
    Calls Try.prog 121 #[.int .i64 n, .int .i64 d] w fun e w' => e = .returned (.int .i64 (n / d)) ∧ w = w' := by
  obtain ⟨b3, b4⟩ := tdiv_bds n d hn hd
  obtain ⟨h1, h2⟩ := hn
  have hd0 : ¬ d = 0 := by omega
  by_cases g1 : n.tmod d < 0
  · have E1 := hid (tdiv_neg n d (by omega) g1)
    go_enter Try.func121, Try.ntmps121
    go_wp2_with fail
    go_ret
    exact ⟨ret_i E1.out, rfl⟩
  · have E1 := hid (tdiv_pos n d (by omega) g1)
    go_enter Try.func121, Try.ntmps121
    go_wp2_with fail
    go_ret
    exact ⟨ret_i E1.out, rfl⟩
theorem roundUp_any (n d : Int) (w : World) (hn : Half n) (hd : 1 ≤ d) :
    Calls Try.prog 122 #[.int .i64 n, .int .i64 d] w fun e w' => e = .returned (.int .i64 (upq n d)) ∧ w = w' := by
  obtain ⟨b3, b4⟩ := tdiv_bds n d hn hd
  obtain ⟨h1, h2⟩ := hn
  have hd0 : ¬ d = 0 := by omega
  by_cases g1 : 0 < n.tmod d
  · have E1 : Hid (n.tdiv d + 1 = upq n d) := hid (by
      rw [upq_ne n d (fun h => by have := (tmod_zero n d).2 h; omega) (by omega), tdiv_pos n d (by omega) (by omega)])
    go_enter Try.func122, Try.ntmps122
    go_wp2_with fail
    go_ret
    exact ⟨ret_i E1.out, rfl⟩
  · have E1 : Hid (n.tdiv d = upq n d) := hid (by
      by_cases g2 : n.tmod d = 0
      · rw [upq_eq n d ((tmod_zero n d).1 g2), tdiv_pos n d (by omega) (by omega)]
      · rw [upq_ne n d (fun h => g2 ((tmod_zero n d).2 h)) (by omega), ← tdiv_neg n d (by omega) (by omega)]; omega)
    go_enter Try.func122, Try.ntmps122
    go_wp2_with fail
    go_ret
    exact ⟨ret_i E1.out, rfl⟩
theorem quotient_any (n d : Int) (w : World) (hn : Half n) (hd : 1 ≤ d) (hd2 : d ≤ 1000) :
    Calls Try.prog 113 #[.int .i64 n, .int .i64 d] w fun e w' => e = .returned (.agg #[.int .i64 (n / d), .int .i64 (upq n d)]) ∧ Below w.heap.size w w' := by
  obtain ⟨q, hq⟩ : ∃ q, n / d = q := ⟨_, rfl⟩
  obtain ⟨u, hu⟩ : ∃ u, upq n d = u := ⟨_, rfl⟩
  have HQ := hid hq; have HU := hid hu; clear hq hu
  rw [HQ.out, HU.out]
  have cd := fun w => roundDown_any n d w hn hd
  have cu := fun w => roundUp_any n d w hn hd
  rw [HQ.out] at cd; rw [HU.out] at cu
  have CD := hid cd; have CU := hid cu; clear cd cu
  go_enter Try.func113, Try.ntmps113
  go_wp2_with (first
    | (go_at_call 121; refine (CD.out _).mono ?_; rintro e w' ⟨rfl, rfl⟩)
    | (go_at_call 122; refine (CU.out _).mono ?_; rintro e w' ⟨rfl, rfl⟩)
    | (go_at_call 109; refine (between_at _ _ _).mono ?_; rintro e w' ⟨rfl, rfl⟩))
  exact bodyPost_ret (v := .agg #[.int .i64 q, .int .i64 u]) (by simp [results, Try.results113, go_sem]) rfl ⟨rfl, by repeat (first | exact Below.refl _ _ | refine Below.alloc ?_ (by simp <;> omega) _ | refine Below.drew ?_ | refine below_drewN ?_ _)⟩

/-! ### The part of a constituent at a place -/

/-- A constituent without an error. -/
structure ConGood (c : Con) : Prop where
  len1 : 2 ≤ c.hs.length
  len2 : c.hs.length ≤ 48
  hs : ∀ i (h : i < c.hs.length), -10000 ≤ c.hs[i] ∧ c.hs[i] ≤ 10000
  den1 : 1 ≤ c.den
  den2 : c.den ≤ 1000
  off1 : 0 ≤ c.off
  off2 : c.off ≤ c.den * c.hs.length - 1
  step1 : 1 ≤ c.step
  step2 : c.step ≤ 100000
  slack1 : 0 ≤ c.slack
  slack2 : c.slack ≤ 1000

/-- The interpolated height, times Den, behind the k-th height by r parts. -/
def heightN (c : Con) (k : Nat) (r : Int) : Int := c.hs.getD k 0 * (c.den - r) + c.hs.getD ((k + 1) % c.hs.length) 0 * r
def partP (c : Con) (k : Nat) (r : Int) : Int × Int := (heightN c k r / c.den - c.slack, upq (heightN c k r) c.den + c.slack)

/-- Whatever a cell holds. -/
def peek (w : World) (a : Addr) : Value := (w.cell? a).getD undef
theorem peek_of {w : World} {a : Addr} {v : Value} (h : w.cell? a = some v) : w.cell? a = some (peek w a) := by simp [peek, h]
/-- Two cells that are read, in a block tb, and two that are written, in rb, while memory is made. -/
theorem keepR {B tb rb i j : Nat} {V W w1 : World} {x y : Value} (hb : Below W.heap.size W w1)
    (h : (Below B V W ∧ W.cell? ⟨tb, i, none⟩ = some x ∧ W.cell? ⟨tb, j, none⟩ = some y) ∧ (W.cell? ⟨rb, 0, none⟩ = some (peek W ⟨rb, 0, none⟩) ∧ W.cell? ⟨rb, 1, none⟩ = some (peek W ⟨rb, 1, none⟩)) ∧ (W.frozen? ⟨rb, 0, none⟩ = false ∧ W.frozen? ⟨rb, 1, none⟩ = false))
    (ht : tb < V.heap.size) (hr : rb < V.heap.size) (hB : B ≤ V.heap.size) :
    (Below B V w1 ∧ w1.cell? ⟨tb, i, none⟩ = some x ∧ w1.cell? ⟨tb, j, none⟩ = some y) ∧ (w1.cell? ⟨rb, 0, none⟩ = some (peek w1 ⟨rb, 0, none⟩) ∧ w1.cell? ⟨rb, 1, none⟩ = some (peek w1 ⟨rb, 1, none⟩)) ∧ (w1.frozen? ⟨rb, 0, none⟩ = false ∧ w1.frozen? ⟨rb, 1, none⟩ = false) := by
  obtain ⟨⟨h1, h2, h3⟩, ⟨h4, h5⟩, h6, h7⟩ := h
  have hs := h1.size
  refine ⟨⟨h1.trans (hb.mono (by omega)), ?_, ?_⟩, ⟨?_, ?_⟩, ?_, ?_⟩
  · rw [hb.cell (by simp; omega)]; exact h2
  · rw [hb.cell (by simp; omega)]; exact h3
  · exact peek_of ((hb.cell (by simp; omega)).trans h4)
  · exact peek_of ((hb.cell (by simp; omega)).trans h5)
  · rw [hb.frozen (by simp; omega)]; exact h6
  · rw [hb.frozen (by simp; omega)]; exact h7
theorem peek_set {w : World} {a b : Addr} {v x : Value} (h : w.cell? a = some v) : (w.setCell b x).cell? a = some (peek (w.setCell b x) a) := by
  obtain ⟨v', hv⟩ := cell?_setCell_some (p := b) (x := x) h
  exact peek_of hv
theorem keepS {B tb rb i j : Nat} {V W : World} {x y u v : Value}
    (h : (Below B V W ∧ W.cell? ⟨tb, i, none⟩ = some x ∧ W.cell? ⟨tb, j, none⟩ = some y) ∧ (W.cell? ⟨rb, 0, none⟩ = some (peek W ⟨rb, 0, none⟩) ∧ W.cell? ⟨rb, 1, none⟩ = some (peek W ⟨rb, 1, none⟩)) ∧ (W.frozen? ⟨rb, 0, none⟩ = false ∧ W.frozen? ⟨rb, 1, none⟩ = false))
    (ht : tb ≠ rb) (hB : B ≤ rb) :
    (Below B V ((W.setCell ⟨rb, 0, none⟩ u).setCell ⟨rb, 1, none⟩ v) ∧ ((W.setCell ⟨rb, 0, none⟩ u).setCell ⟨rb, 1, none⟩ v).cell? ⟨tb, i, none⟩ = some x ∧ ((W.setCell ⟨rb, 0, none⟩ u).setCell ⟨rb, 1, none⟩ v).cell? ⟨tb, j, none⟩ = some y) ∧
    (((W.setCell ⟨rb, 0, none⟩ u).setCell ⟨rb, 1, none⟩ v).cell? ⟨rb, 0, none⟩ = some (peek ((W.setCell ⟨rb, 0, none⟩ u).setCell ⟨rb, 1, none⟩ v) ⟨rb, 0, none⟩) ∧ ((W.setCell ⟨rb, 0, none⟩ u).setCell ⟨rb, 1, none⟩ v).cell? ⟨rb, 1, none⟩ = some (peek ((W.setCell ⟨rb, 0, none⟩ u).setCell ⟨rb, 1, none⟩ v) ⟨rb, 1, none⟩)) ∧
    (((W.setCell ⟨rb, 0, none⟩ u).setCell ⟨rb, 1, none⟩ v).frozen? ⟨rb, 0, none⟩ = false ∧ ((W.setCell ⟨rb, 0, none⟩ u).setCell ⟨rb, 1, none⟩ v).frozen? ⟨rb, 1, none⟩ = false) := by
  obtain ⟨⟨h1, h2, h3⟩, ⟨h4, h5⟩, h6, h7⟩ := h
  have n0 : ∀ o p, (⟨rb, o, none⟩ : Addr) ≠ ⟨tb, p, none⟩ := fun o p e => ht (by injection e with e; exact e.symm)
  refine ⟨⟨(h1.setCell (p := ⟨rb, 0, none⟩) hB _).setCell (p := ⟨rb, 1, none⟩) hB _, ?_, ?_⟩, ⟨?_, ?_⟩, ?_, ?_⟩
  · rw [World.cell?_setCell_other _ _ _ _ (n0 _ _), World.cell?_setCell_other _ _ _ _ (n0 _ _)]; exact h2
  · rw [World.cell?_setCell_other _ _ _ _ (n0 _ _), World.cell?_setCell_other _ _ _ _ (n0 _ _)]; exact h3
  · exact peek_set (peek_set h4)
  · exact peek_set (peek_set h5)
  · simpa using h6
  · simpa using h7
theorem cell_set_back {w : World} {a b : Addr} {v x : Value} (h : (w.setCell b x).cell? a = some v) : ∃ u, w.cell? a = some u := by
  by_cases e : b = a
  · subst e
    cases hc : w.cell? b with
    | some u => exact ⟨u, rfl⟩
    | none =>
      exfalso
      simp only [World.cell?, World.setCell, Array.getElem?_modify, if_true] at h hc
      cases hb : w.heap[b.block]? with
      | none => simp [hb] at h
      | some o =>
        cases o with
        | cells c e f =>
          simp only [hb, Option.map_some] at h hc
          cases hs : b.spot.isSome
          · simp only [hs, Bool.false_eq_true, if_false] at h hc
            rw [Array.getElem?_eq_none_iff] at hc
            rw [Array.getElem?_eq_none (by simpa using hc)] at h
            cases h
          · simp [hs] at h
        | _ => simp [hb] at h
  · rw [World.cell?_setCell_other _ _ _ _ e] at h; exact ⟨v, h⟩
theorem peek_two0 {W : World} {rb : Nat} {u v x : Value} (h : ((W.setCell ⟨rb, 0, none⟩ u).setCell ⟨rb, 1, none⟩ v).cell? ⟨rb, 0, none⟩ = some x) : peek ((W.setCell ⟨rb, 0, none⟩ u).setCell ⟨rb, 1, none⟩ v) ⟨rb, 0, none⟩ = u := by
  obtain ⟨a, ha⟩ := cell_set_back h
  obtain ⟨b, hb⟩ := cell_set_back ha
  unfold peek
  rw [World.cell?_setCell_other _ _ _ _ (by simp), World.cell?_setCell_same _ _ _ hb]; rfl
theorem peek_two1 {W : World} {rb : Nat} {u v x : Value} (h : ((W.setCell ⟨rb, 0, none⟩ u).setCell ⟨rb, 1, none⟩ v).cell? ⟨rb, 1, none⟩ = some x) : peek ((W.setCell ⟨rb, 0, none⟩ u).setCell ⟨rb, 1, none⟩ v) ⟨rb, 1, none⟩ = v := by
  obtain ⟨a, ha⟩ := cell_set_back h
  unfold peek
  rw [World.cell?_setCell_same _ _ _ ha]; rfl
theorem keepB2 {B : Nat} {V W : World} {p q : Prop} (h : (Below B V W ∧ p) ∧ q) : Below B V W := h.1.1
theorem mul_bd {x r : Int} (h1 : -10000 ≤ x) (h2 : x ≤ 10000) (h3 : 0 ≤ r) (h4 : r ≤ 1000) : -10000000 ≤ x * r ∧ x * r ≤ 10000000 := by
  have a := Int.mul_le_mul_of_nonneg_right h1 h3
  have b := Int.mul_le_mul_of_nonneg_right h2 h3
  omega
set_option maxHeartbeats 1000000 in
theorem part_any (c : Con) (hg : ConGood c) (hb ho hc : Nat) (k : Nat) (r : Int) (w : World) (hk : k < c.hs.length) (hr0 : 0 ≤ r) (hr1 : r < c.den) (hbs : hb < w.heap.size)
    (hat : ∀ i (h : i < c.hs.length), w.cell? ⟨hb, ho + i, none⟩ = some (.int .i64 c.hs[i])) :
    Calls Try.prog 97 #[.agg #[.string c.name, .slice (some ⟨hb, ho, none⟩) c.hs.length hc, .int .i64 c.off, .int .i64 c.step, .int .i64 c.den, .int .i64 c.slack], .agg #[.int .i64 k, .int .i64 r]] w
      fun e w' => e = .returned (.agg #[.int .i64 (partP c k r).1, .int .i64 (partP c k r).2]) ∧ Below w.heap.size w w' := by
  obtain ⟨nm, hs, off, step, den, slack⟩ := c
  obtain ⟨g1, g2, gh, g3, g4, g5, g6, g7, g8, g9, g10⟩ := hg
  simp only at *
  have hm : (k + 1) % hs.length < hs.length := Nat.mod_lt _ (by omega)
  have e1 := hat k hk
  have e2 := hat _ hm
  have k1 := gh k hk
  have k2 := gh _ hm
  obtain ⟨P, hP⟩ : ∃ P, P = partP ⟨nm, hs, off, step, den, slack⟩ k r := ⟨_, rfl⟩
  rw [← hP]
  unfold partP heightN at hP
  simp only [List.getD, hk, hm, getElem?_pos, Option.getD_some] at hP
  have HP := hid hP; clear hP hat gh
  generalize hs[k] = x at *
  generalize hgy : hs[(k + 1) % hs.length] = y at *
  clear hgy
  obtain ⟨k11, k12⟩ := k1
  obtain ⟨k21, k22⟩ := k2
  have z : ((k : Int) + 1) % (hs.length : Int) = (((k + 1) % hs.length : Nat) : Int) := by norm_cast
  have m1 : 0 ≤ den - r ∧ den - r ≤ 1000 := by omega
  have m2 : -10000000 ≤ x * (den - r) ∧ x * (den - r) ≤ 10000000 := mul_bd k11 k12 m1.1 m1.2
  have m3 : -10000000 ≤ y * r ∧ y * r ≤ 10000000 := mul_bd k21 k22 hr0 (by omega)
  obtain ⟨m21, m22⟩ := m2
  obtain ⟨m31, m32⟩ := m3
  have kz : (((k + 1) % hs.length : Nat) : Int) < (hs.length : Int) := by omega
  have kk : (k : Int) < (hs.length : Int) := by omega
  have q1 : -10000 * 1000 ≤ x * (den - r) + y * r + 10000000 := by omega
  clear q1 m1
  have hH : Half (x * (den - r) + y * r) := ⟨by omega, by omega⟩
  have hq1 : Half ((x * (den - r) + y * r) / den) := half_div hH g3
  have hq2 : Half (upq (x * (den - r) + y * r) den) := half_upq ⟨by omega, by omega⟩ g3
  have hq3 : Half slack := ⟨by omega, by omega⟩
  generalize (k + 1) % hs.length = m at *
  go_enter Try.func97, Try.ntmps97
  go_wp2_with fail
  generalize hW1 : World.alloc (World.alloc (World.alloc w _) _) _ = W1
  have B1 : Below w.heap.size w W1 := by rw [← hW1]; repeat (first | exact Below.refl _ _ | refine Below.alloc ?_ (by simp <;> omega) _)
  have S1 : w.heap.size + 2 < W1.heap.size := by rw [← hW1]; simp
  have d1 : W1.cell? ⟨w.heap.size, 1, none⟩ = some (.slice (some ⟨hb, ho, none⟩) hs.length hc) := by rw [← hW1]; simp [go_sem]
  have d4 : W1.cell? ⟨w.heap.size, 4, none⟩ = some (.int .i64 den) := by rw [← hW1]; simp [go_sem]
  have d5 : W1.cell? ⟨w.heap.size, 5, none⟩ = some (.int .i64 slack) := by rw [← hW1]; simp [go_sem]
  have f0 : W1.cell? ⟨w.heap.size + 1, 0, none⟩ = some (.int .i64 k) := by rw [← hW1]; simp [go_sem]
  have f1 : W1.cell? ⟨w.heap.size + 1, 1, none⟩ = some (.int .i64 r) := by rw [← hW1]; simp [go_sem]
  have r0 : W1.cell? ⟨w.heap.size + 1 + 1, 0, none⟩ = some (.int .i64 0) := by rw [← hW1]; simp [go_sem]
  have r1 : W1.cell? ⟨w.heap.size + 1 + 1, 1, none⟩ = some (.int .i64 0) := by rw [← hW1]; simp [go_sem]
  have z0 : W1.frozen? ⟨w.heap.size + 1 + 1, 0, none⟩ = false := by rw [← hW1]; simp [go_sem]
  have z1 : W1.frozen? ⟨w.heap.size + 1 + 1, 1, none⟩ = false := by rw [← hW1]; simp [go_sem]
  have e1 := (B1.cell (p := ⟨hb, ho + k, none⟩) hbs).trans e1
  have e2 := (B1.cell (p := ⟨hb, ho + m, none⟩) hbs).trans e2
  clear hW1
  go_quiet (fail)
  go_wp2_with fail
  obtain ⟨V, hV⟩ : ∃ V, V = W1.drewN nq := ⟨_, rfl⟩
  have hN : Below (w.heap.size + 2) W1 (W1.drewN nq) := below_drewN (Below.refl _ _) _
  have v4 : (W1.drewN nq).cell? ⟨w.heap.size, 4, none⟩ = some (.int .i64 den) := d4
  have v5 : (W1.drewN nq).cell? ⟨w.heap.size, 5, none⟩ = some (.int .i64 slack) := d5
  have p0 : (W1.drewN nq).cell? ⟨w.heap.size + 1 + 1, 0, none⟩ = some (peek (W1.drewN nq) ⟨w.heap.size + 1 + 1, 0, none⟩) := peek_of (v := .int .i64 0) r0
  have p1 : (W1.drewN nq).cell? ⟨w.heap.size + 1 + 1, 1, none⟩ = some (peek (W1.drewN nq) ⟨w.heap.size + 1 + 1, 1, none⟩) := peek_of (v := .int .i64 0) r1
  have y0 : (W1.drewN nq).frozen? ⟨w.heap.size + 1 + 1, 0, none⟩ = false := z0
  have y1 : (W1.drewN nq).frozen? ⟨w.heap.size + 1 + 1, 1, none⟩ = false := z1
  rw [← hV] at hN v4 v5 p0 p1 y0 y1 ⊢
  have SV : w.heap.size + 2 < V.heap.size := Nat.lt_of_lt_of_le S1 hN.size
  clear hV d1 d4 d5 f0 f1 r0 r1 z0 z1 e1 e2
  go_region_held3 (fun w' => (Below (w.heap.size + 2) V w' ∧ w'.cell? ⟨w.heap.size, 4, none⟩ = some (.int .i64 den) ∧ w'.cell? ⟨w.heap.size, 5, none⟩ = some (.int .i64 slack)) ∧ (w'.cell? ⟨w.heap.size + 1 + 1, 0, none⟩ = some (peek w' ⟨w.heap.size + 1 + 1, 0, none⟩) ∧ w'.cell? ⟨w.heap.size + 1 + 1, 1, none⟩ = some (peek w' ⟨w.heap.size + 1 + 1, 1, none⟩)) ∧ (w'.frozen? ⟨w.heap.size + 1 + 1, 0, none⟩ = false ∧ w'.frozen? ⟨w.heap.size + 1 + 1, 1, none⟩ = false))
    (first | assumption | exact ⟨⟨(Below.refl _ _).drew, v4, v5⟩, ⟨p0, p1⟩, ⟨y0, y1⟩⟩ | exact keepR (by assumption) (by assumption) (by omega) (by omega) (by omega) | exact keepS (by assumption) (by omega) (by omega))
    (first
      | (go_at_call 113; refine (quotient_any _ _ _ hH g3 g4).mono ?_; rintro e w' ⟨rfl, hb⟩)
      | (go_at_call 103; refine (wider_any _ _ _ _ hq1 hq2 hq3).mono ?_; rintro e w' ⟨rfl, hb⟩))
  all_goals
    obtain ⟨⟨hf1, _, _⟩, ⟨hp0, hp1⟩, _⟩ := (by assumption : (Below (w.heap.size + 2) V _ ∧ World.cell? _ ⟨w.heap.size, 4, none⟩ = some (.int .i64 den) ∧ World.cell? _ ⟨w.heap.size, 5, none⟩ = some (.int .i64 slack)) ∧ _)
    go_wp2_with fail
    refine bodyPost_ret (v := .agg #[.int .i64 P.1, .int .i64 P.2]) (by simp [results, Try.results97, go_sem, HP.out, *]; exact ⟨peek_two0 hp0, peek_two1 hp1⟩) rfl ⟨rfl, ?_⟩
    exact B1.trans (hN.mono (by omega)) |>.trans (hf1.mono (by omega))
end Go.Proofs.Ytblneiegekdnjaa
