/- Tide, part ZA: lists of spans in memory; down, up and some of the reference. -/
import Derived.Test.YtblneiegekdnjaaTN
set_option linter.all false
namespace Go.Proofs.Ytblneiegekdnjaa
open Go.RowKit

/-- Spans in memory, from an address on, if there are any. -/
def SpansAt (w : World) (a : Option Addr) (l : List (Int × Int)) : Prop :=
  l = [] ∨ ∃ b o, a = some ⟨b, o, none⟩ ∧ b < w.heap.size ∧ ∀ i (h : i < l.length), w.cell? ⟨b, o + i * 2, none⟩ = some (.int .i64 l[i].1) ∧ w.cell? ⟨b, o + i * 2 + 1, none⟩ = some (.int .i64 l[i].2)
theorem SpansAt.later {w w' : World} {a : Option Addr} {l : List (Int × Int)} {B : Nat} (h : SpansAt w a l) (hb : Below B w w') (hB : w.heap.size ≤ B) : SpansAt w' a l := by
  rcases h with h | ⟨b, o, ha, hs, hc⟩
  · exact .inl h
  · exact .inr ⟨b, o, ha, Nat.lt_of_lt_of_le hs hb.size, fun i hi => ⟨by rw [hb.cell (p := ⟨b, o + i * 2, none⟩) (by simp; omega)]; exact (hc i hi).1, by rw [hb.cell (p := ⟨b, o + i * 2 + 1, none⟩) (by simp; omega)]; exact (hc i hi).2⟩⟩

def spanVals (l : List (Int × Int)) : List Value := l.flatMap fun s => [Value.int .i64 s.1, Value.int .i64 s.2]
theorem spanVals_snoc (l : List (Int × Int)) (s : Int × Int) : spanVals (l ++ [s]) = spanVals l ++ [Value.int .i64 s.1, Value.int .i64 s.2] := by simp [spanVals]
theorem spanVals_get : ∀ (l : List (Int × Int)) (i : Nat) (h : i < l.length), (spanVals l)[i * 2]? = some (.int .i64 l[i].1) ∧ (spanVals l)[i * 2 + 1]? = some (.int .i64 l[i].2)
  | [], i, h => by simp at h
  | s :: r, 0, h => by simp [spanVals]
  | s :: r, i + 1, h => by
    have := spanVals_get r i (by simpa using h)
    have e : spanVals (s :: r) = Value.int .i64 s.1 :: Value.int .i64 s.2 :: spanVals r := by simp [spanVals]
    rw [e, show (i + 1) * 2 = i * 2 + 1 + 1 by omega]
    simpa using this
theorem addr_add0 (g n : Nat) : (⟨g, 0, none⟩ : Addr).add n = ⟨g, n, none⟩ := by unfold Addr.add; split <;> simp_all
theorem spansAt_of_own {w : World} {base : Nat} {T : TypeId} {v : Value} {l : List (Int × Int)} (h : w.ownsRow base T 2 v l.length (spanVals l)) :
    ∃ a cap, v = .slice a l.length cap ∧ SpansAt w a l := by
  rcases h.2 with ⟨rfl, hn⟩ | ⟨g, cap, cur, rfl, hb, hg, _⟩
  · exact ⟨none, 0, by rw [hn], .inl (List.length_eq_zero_iff.1 hn)⟩
  · refine ⟨_, cap, rfl, .inr ⟨g, 0, rfl, (Array.getElem?_eq_some_iff.1 hg).1, fun i hi => ?_⟩⟩
    have e := spanVals_get l i hi
    have c1 := h.cells (g := g) rfl _ _ e.1
    have c2 := h.cells (g := g) rfl _ _ e.2
    rw [addr_add0] at c1 c2
    exact ⟨by simpa using c1, by simpa using c2⟩
/-- Numbers that the call itself gathered. -/
def intVals (l : List Int) : List Value := l.map (Value.int .i64)
theorem intsAt_of_own {w : World} {base : Nat} {T : TypeId} {v : Value} {l : List Int} (h : w.ownsRow base T 1 v l.length (intVals l)) :
    ∃ a cap, v = .slice a l.length cap ∧ IntsAt w a l := by
  rcases h.2 with ⟨rfl, hn⟩ | ⟨g, cap, cur, rfl, hb, hg, _⟩
  · exact ⟨none, 0, by rw [hn], .inl (List.length_eq_zero_iff.1 hn)⟩
  · refine ⟨_, cap, rfl, .inr ⟨g, 0, rfl, (Array.getElem?_eq_some_iff.1 hg).1, fun i hi => ?_⟩⟩
    have c1 := h.cells (g := g) rfl i (.int .i64 l[i]) (by simp [intVals, hi])
    rw [addr_add0] at c1
    simpa using c1
/-- What is owned, where memory is made and cells below the base alone are written. -/
theorem ownsRow_below {w w' : World} {base : Nat} {T : TypeId} {sz : Nat} {v : Value} {n : Nat} {xs : List Value} (h : w.ownsRow base T sz v n xs) (hb : Below w.heap.size w w') : w'.ownsRow base T sz v n xs := by
  refine h.kept (grown_of_below (row := none) hb) ?_
  cases v.ownBlock <;> simp
/-- An append's world, below the base. -/
theorem below_own {w w' : World} {base B : Nat} {T : TypeId} {sz : Nat} {v : Value} {n : Nat} {xs : List Value} (h : w.ownsRow base T sz v n xs) (hB : B ≤ base) (hs : B ≤ w.heap.size) (hg : w.grownBy w' v.ownBlock) : Below B w w' :=
  ⟨hg.os, hg.tape, hg.output, hg.size, fun k hk => hg.block k (by omega) (fun e => by have := (h.lt k e.symm).1; omega)⟩

set_option maxHeartbeats 1000000 in
theorem rdown_any (n d : Int) (w : World) (hn : Half n) (hd : 1 ≤ d) (_hd2 : d ≤ 1000) :
    Calls Try.prog 98 #[.int .i64 n, .int .i64 d] w fun e w' => e = .returned (.int .i64 (n / d)) ∧ w = w' := by
  obtain ⟨h1, h2⟩ := hn
  have k3 := tdiv_neg n d (by omega)
  have k4 := tdiv_pos n d (by omega)
  have hd0 : ¬ d = 0 := by omega
  obtain ⟨b1, b2⟩ := half_div (d := d) (n := n) ⟨h1, h2⟩ hd
  by_cases g1 : n.tmod d < 0
  · have E1 := hid (k3 g1)
    have b3 : -4611686018427387904 ≤ n.tdiv d ∧ n.tdiv d ≤ 4611686018427387905 := by have := k3 g1; omega
    obtain ⟨b3, b4⟩ := b3
    clear k3 k4 b1 b2
    go_enter Try.func98, Try.ntmps98
    go_wp2_with fail
    go_ret
    exact ⟨by rw [← E1.out]; rfl, rfl⟩
  · have E1 := hid (k4 g1)
    clear k3 k4 b1 b2
    go_enter Try.func98, Try.ntmps98
    go_wp2_with fail
    go_ret
    exact ⟨by rw [← E1.out]; rfl, rfl⟩

set_option maxHeartbeats 1000000 in
theorem rup_any (n d : Int) (w : World) (hn : -4611686018427387903 ≤ n ∧ n ≤ 4611686018427387903) (hd : 1 ≤ d) (hd2 : d ≤ 1000) :
    Calls Try.prog 99 #[.int .i64 n, .int .i64 d] w fun e w' => e = .returned (.int .i64 (upq n d)) ∧ w = w' := by
  obtain ⟨h1, h2⟩ := hn
  have hh : Half (-n) := ⟨by omega, by omega⟩
  obtain ⟨b1, b2⟩ := half_div (d := d) hh hd
  have HU := hid (show upq n d = -((-n) / d) from rfl)
  generalize hq : (-n) / d = q at *
  have HQ := hid hq; clear hq
  go_enter Try.func99, Try.ntmps99
  go_wp2_with fail
  refine (rdown_any _ _ _ hh hd hd2).mono ?_
  rintro e w' ⟨rfl, rfl⟩
  rw [HQ.out]
  go_wp2_with fail
  go_ret
  exact ⟨by rw [HU.out]; rfl, rfl⟩

/-- The error of n ticks from one on. -/
def someE (x n : Int) : Int := if inB n 0 400 = false then 3 else if ticksB x n = false then 7 else 0
theorem someE_eq (x n : Int) : someE x n = if inB n 0 400 = false then 3 else if ticksB x n = false then 7 else 0 := rfl
theorem rtickV (v : Bool) (x : Int) (w : World) (hv : inB x 0 200000 = v) :
    Calls Try.prog 61 #[.int .i64 x] w fun e w' => e = .returned (.bool v) ∧ w = w' := by
  rw [← hv]; exact rtick_any x w
set_option maxHeartbeats 1000000 in
theorem rsome_any (x n : Int) (w : World) :
    Calls Try.prog 65 #[.int .i64 x, .int .i64 n] w fun e w' => e = .returned (.int .i64 (someE x n)) ∧ w = w' := by
  have HE := hid (someE_eq x n)
  cases h0 : inB n 0 400
  · have H0 := hid h0
    go_enter Try.func65, Try.ntmps65
    go_wp2_with (go_at_call 55; refine (rin_val _ _ _ _ _ (by assumption)).mono ?_; rintro e w' ⟨rfl, rfl⟩)
    go_ret
    exact ⟨by rw [HE.out, if_pos H0.out]; rfl, rfl⟩
  obtain ⟨hn0, hn1⟩ := inB_iff.1 h0
  have H0 := hid h0
  by_cases hz : n = 0
  · subst hz
    go_enter Try.func65, Try.ntmps65
    go_wp2_with (go_at_call 55; refine (rin_val _ _ _ _ _ (by assumption)).mono ?_; rintro e w' ⟨rfl, rfl⟩)
    go_ret
    exact ⟨by rw [HE.out, if_neg (by rw [H0.out]; simp)]; simp [ticksB], rfl⟩
  have hp : (0 : Int) < n := by omega
  have hne : ¬ n = 0 := hz
  cases h1 : inB x 0 200000
  · have H1 := hid h1
    have HT := hid (show ticksB x n = false by simp [ticksB, hne, h1])
    clear hz hne
    go_enter Try.func65, Try.ntmps65
    go_wp2_with (first
      | (go_at_call 55; refine (rin_val _ _ _ _ _ (by assumption)).mono ?_; rintro e w' ⟨rfl, rfl⟩)
      | (go_at_call 61; refine (rtickV _ _ _ (by assumption)).mono ?_; rintro e w' ⟨rfl, rfl⟩))
    go_ret
    exact ⟨by rw [HE.out, if_neg (by rw [H0.out]; simp), if_pos HT.out]; rfl, rfl⟩
  obtain ⟨hx0, hx1⟩ := inB_iff.1 h1
  have H1 := hid h1
  cases h2 : inB (x + n - 1) 0 200000
  all_goals
    have H2 := hid h2
    have HT := hid (show ticksB x n = inB (x + n - 1) 0 200000 by simp [ticksB, hne, h1])
    clear hz hne
    go_enter Try.func65, Try.ntmps65
    go_wp2_with (first
      | (go_at_call 55; refine (rin_val _ _ _ _ _ (by assumption)).mono ?_; rintro e w' ⟨rfl, rfl⟩)
      | (go_at_call 61; refine (rtickV _ _ _ (by assumption)).mono ?_; rintro e w' ⟨rfl, rfl⟩))
    go_ret
    exact ⟨by rw [HE.out, if_neg (by rw [H0.out]; simp), HT.out, H2.out]; rfl, rfl⟩

/-- The levels at n ticks. -/
def levelsL (mean : Int) (cs : List Con) (x : Int) (n : Nat) : List (Int × Int) := (List.range n).map fun (i : Nat) => levelAt mean cs (x + (i : Int))
theorem levelsL_len (mean : Int) (cs : List Con) (x : Int) (n : Nat) : (levelsL mean cs x n).length = n := by simp [levelsL]
theorem levelsL_get (mean : Int) (cs : List Con) (x : Int) (n i : Nat) (h : i < (levelsL mean cs x n).length) : (levelsL mean cs x n)[i] = levelAt mean cs (x + i) := by simp [levelsL]
theorem levelsL_snoc (mean : Int) (cs : List Con) (x : Int) (n : Nat) : levelsL mean cs x (n + 1) = levelsL mean cs x n ++ [levelAt mean cs (x + n)] := by simp [levelsL, List.range_succ]
def levelsP (mean : Int) (cs : List Con) (x n : Int) : List (Int × Int) × Int :=
  if (checkP mean cs).2 ≠ 0 then ([], (checkP mean cs).2) else if someE x n ≠ 0 then ([], someE x n) else (levelsL mean cs x n.toNat, 0)
theorem levelsP_eq (mean : Int) (cs : List Con) (x n : Int) : levelsP mean cs x n = if (checkP mean cs).2 ≠ 0 then ([], (checkP mean cs).2) else if someE x n ≠ 0 then ([], someE x n) else (levelsL mean cs x n.toNat, 0) := rfl
theorem spansAt_row {w : World} {lb n : Nat} {mean x : Int} {cs : List Con} (hlb : lb < w.heap.size) (h : SpanRow w lb n (fun i => levelAt mean cs (x + i))) : SpansAt w (some ⟨lb, 0, none⟩) (levelsL mean cs x n) :=
  .inr ⟨lb, 0, rfl, hlb, fun i hi => by
    have h0 := h.lo i (by simpa [levelsL_len] using hi)
    have h1 := h.hi i (by simpa [levelsL_len] using hi)
    rw [levelsL_get]
    exact ⟨by simpa using h0, by simpa using h1⟩⟩
end Go.Proofs.Ytblneiegekdnjaa
