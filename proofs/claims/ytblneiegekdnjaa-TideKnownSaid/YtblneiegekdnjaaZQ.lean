/- Tide, part ZQ: rows of constituents that the call itself gathers; what TideCycles says. -/
import Derived.Test.YtblneiegekdnjaaZD
import Derived.Test.YtblneiegekdnjaaZP
set_option linter.all false
namespace Go.Proofs.Ytblneiegekdnjaa
open Go.RowKit

def conCells (c : Con) (ha : Option Addr) (hc : Nat) : List Value := [.string c.name, .slice ha c.hs.length hc, .int .i64 c.off, .int .i64 c.step, .int .i64 c.den, .int .i64 c.slack]
def conVals (l : List (Con × Option Addr × Nat)) : List Value := l.flatMap fun r => conCells r.1 r.2.1 r.2.2
theorem conVals_snoc (l : List (Con × Option Addr × Nat)) (r : Con × Option Addr × Nat) : conVals (l ++ [r]) = conVals l ++ conCells r.1 r.2.1 r.2.2 := by simp [conVals]
theorem conVals_get : ∀ (l : List (Con × Option Addr × Nat)) (i : Nat) (h : i < l.length) (j : Nat) (_ : j < 6), (conVals l)[i * 6 + j]? = (conCells l[i].1 l[i].2.1 l[i].2.2)[j]?
  | [], i, h, _, _ => by simp at h
  | r :: l, 0, h, j, hj => by
    have e : conVals (r :: l) = conCells r.1 r.2.1 r.2.2 ++ conVals l := rfl
    rw [e, Nat.zero_mul, Nat.zero_add, List.getElem?_append_left (by simp [conCells]; omega)]
    rfl
  | r :: l, i + 1, h, j, hj => by
    have := conVals_get l i (by simpa using h) j hj
    have e : conVals (r :: l) = conCells r.1 r.2.1 r.2.2 ++ conVals l := rfl
    have e6 : (conCells r.1 r.2.1 r.2.2).length = 6 := rfl
    rw [e, List.getElem?_append_right (by rw [e6]; omega), e6, show (i + 1) * 6 + j - 6 = i * 6 + j by omega]
    simpa using this
theorem consOk_of_own {w : World} {base : Nat} {T : TypeId} {v : Value} {l : List (Con × Option Addr × Nat)} (h : w.ownsRow base T 6 v l.length (conVals l)) (hl : l.length ≤ 140737488355328)
    (hwf : ∀ r ∈ l, ConWf r.1 ∧ IntsAt w r.2.1 r.1.hs) : ∃ a cap, v = .slice a l.length cap ∧ ConsOk w a cap (l.map Prod.fst) := by
  have hw' : ∀ c ∈ l.map Prod.fst, ConWf c := fun c hc => by
    obtain ⟨r, hr, rfl⟩ := List.mem_map.1 hc
    exact (hwf r hr).1
  rcases h.2 with ⟨rfl, hn⟩ | ⟨g, cap, cur, rfl, hb, hg, hcap, _⟩
  · have h0 := List.length_eq_zero_iff.1 hn
    exact ⟨none, 0, by rw [hn], by simp [h0], by simp [h0], hw', .inl (by simp [h0])⟩
  · refine ⟨_, cap, rfl, by simpa using hcap, by simpa using hl, hw', .inr ⟨g, 0, rfl, (Array.getElem?_eq_some_iff.1 hg).1, fun i hi => ?_⟩⟩
    have hi' : i < l.length := by simpa using hi
    have c : ∀ j, j < 6 → ∀ u, (conCells l[i].1 l[i].2.1 l[i].2.2)[j]? = some u → w.cell? ⟨g, 0 + i * 6 + j, none⟩ = some u := fun j hj u hu => by
      have := h.cells (g := g) rfl (i * 6 + j) u (by rw [conVals_get l i hi' j hj]; exact hu)
      rw [addr_add0] at this
      rw [show 0 + i * 6 + j = i * 6 + j by omega]; exact this
    refine ⟨l[i].2.1, l[i].2.2, ?_⟩
    rw [List.getElem_map]
    exact ⟨c 0 (by omega) _ rfl, c 1 (by omega) _ rfl, c 2 (by omega) _ rfl, c 3 (by omega) _ rfl, c 4 (by omega) _ rfl, c 5 (by omega) _ rfl, (hwf _ (List.getElem_mem _)).2⟩

def rowsOf (f : Nat → Con → Con) (ha : Nat → Option Addr) (hc : Nat → Nat) (cs : List Con) (k : Nat) : List (Con × Option Addr × Nat) := (List.range k).map fun i => (f i (cs.getD i default), ha i, hc i)
theorem rowsOf_len (f : Nat → Con → Con) (ha : Nat → Option Addr) (hc : Nat → Nat) (cs : List Con) (k : Nat) : (rowsOf f ha hc cs k).length = k := by simp [rowsOf]
theorem rowsOf_snoc (f : Nat → Con → Con) (ha : Nat → Option Addr) (hc : Nat → Nat) (cs : List Con) (k : Nat) (h : k < cs.length) : rowsOf f ha hc cs (k + 1) = rowsOf f ha hc cs k ++ [(f k cs[k], ha k, hc k)] := by
  simp [rowsOf, List.range_succ, h]
theorem rowsOf_fst (f : Nat → Con → Con) (ha : Nat → Option Addr) (hc : Nat → Nat) (cs : List Con) : (rowsOf f ha hc cs cs.length).map Prod.fst = cs.mapIdx f := by
  refine List.ext_getElem (by simp [rowsOf]) fun i h1 h2 => ?_
  have hi : i < cs.length := by simpa using h2
  simp [rowsOf, hi]
theorem ConsOk.rows {w : World} {a : Option Addr} {cap : Nat} {cs : List Con} (h : ConsOk w a cap cs) :
    ∃ (ha : Nat → Option Addr) (hc : Nat → Nat), ∀ i (hi : i < cs.length), ∃ b o, a = some ⟨b, o, none⟩ ∧ b < w.heap.size ∧ ConAt w b (o + i * 6) cs[i] (ha i) (hc i) := by
  rcases h.at_ with h0 | ⟨b, o, rfl, hs, hc⟩
  · exact ⟨fun _ => none, fun _ => 0, fun i hi => by simp [h0] at hi⟩
  · exact ⟨fun i => if h : i < cs.length then Classical.choose (hc i h) else none, fun i => if h : i < cs.length then Classical.choose (Classical.choose_spec (hc i h)) else 0,
      fun i hi => ⟨b, o, rfl, hs, by simp only [hi, dif_pos]; exact Classical.choose_spec (Classical.choose_spec (hc i hi))⟩⟩
/-- What is owned stays so where another block is written. -/
theorem ownsRow_set {w : World} {base : Nat} {T : TypeId} {sz : Nat} {v : Value} {n : Nat} {xs : List Value} (h : w.ownsRow base T sz v n xs) (p : Addr) (x : Value) (ho : v.ownBlock ≠ some p.block) : (w.setCell p x).ownsRow base T sz v n xs := by
  refine h.kept (row := some p.block) ⟨rfl, rfl, rfl, by simp [World.setCell], fun k hk hne => ?_⟩ (by cases hv : v.ownBlock with | none => exact .inl rfl | some g => right; intro e; exact ho (by rw [hv]; exact e))
  exact Below.heap_setCell _ _ _ _ (fun e => hne (by rw [e]))
theorem ownsRow_lt {w : World} {base : Nat} {T : TypeId} {sz : Nat} {v : Value} {n : Nat} {xs : List Value} (h : w.ownsRow base T sz v n xs) {b : Nat} (hb : b < base ∨ w.heap.size ≤ b) : v.ownBlock ≠ some b := fun e => by
  have := h.lt b e; omega

theorem levelP_ok {mean : Int} {cs : List Con} {t : Int} {q : (Int × Int) × Int} (h : levelP mean cs t = q) (h0 : q.2 = 0) : (checkP mean cs).2 = 0 ∧ (0 ≤ t ∧ t ≤ 200000) ∧ q = (levelAt mean cs t, 0) := by
  subst h
  unfold levelP at h0 ⊢
  split at h0
  · rename_i h1; exact absurd h0 h1
  rename_i h1
  split at h0
  · exact absurd h0 (by decide)
  rename_i h2
  rw [if_neg h1, if_neg h2]
  exact ⟨Decidable.not_not.1 h1, inB_iff.1 (by simpa using h2), rfl⟩
theorem levelP_of {mean : Int} {cs : List Con} {t : Int} (h : (checkP mean cs).2 = 0) (ht : 0 ≤ t ∧ t ≤ 200000) : levelP mean cs t = (levelAt mean cs t, 0) := by
  unfold levelP
  rw [if_neg (by simp [h]), if_neg (by rw [inB_iff.2 ht]; simp)]
theorem periodP_ok {mean : Int} {cs : List Con} {p : Int × Int} (h : periodP mean cs = p) (h0 : p.2 = 0) : ∃ n : Nat, p.1 = n ∧ 0 < n ∧ ∀ c ∈ cs, ownP c ∣ n := by
  subst h
  unfold periodP at h0 ⊢
  split at h0
  · rename_i h1; exact absurd h0 h1
  rename_i h1
  rw [if_neg h1]
  obtain ⟨n, e1, e2, _, e3⟩ := perL_dvd cs 1 (by omega) (tabGood_of (Decidable.not_not.1 h1)).2.2 h0
  exact ⟨n, e1, e2, e3⟩
theorem perL_bd : ∀ (l : List Con) (p : Nat), p ≤ 1000000000 → 0 ≤ (perL p l).1 ∧ (perL p l).1 ≤ 1000000000
  | [], p, h => by unfold perL; exact ⟨by simp, by simp only; omega⟩
  | c :: r, p, h => by
    unfold perL
    split
    · exact ⟨by decide, by decide⟩
    · rename_i h1; exact perL_bd r _ (by omega)
theorem periodP_bd (mean : Int) (cs : List Con) : 0 ≤ (periodP mean cs).1 ∧ (periodP mean cs).1 ≤ 1000000000 := by
  unfold periodP
  split
  · exact ⟨by simp, by simp⟩
  · exact perL_bd _ _ (by omega)
theorem shift_wf {c : Con} (h : ConWf c) (hg : ConGood c) : ConWf (shiftC c) := by
  have h2 := shift_good hg
  have h3 := h2.off1
  have h4 := h2.off2
  have h5 := cyc_bd hg
  have e : (shiftC c).den * ((shiftC c).hs.length : Int) = cyc c := rfl
  rw [e] at h4
  exact ⟨h.name, h.len, h.hs, ⟨by omega, by omega⟩, h.step, h.den, h.slack⟩

theorem periodVal (mean : Int) (a : Option Addr) (cap : Nat) (cs : List Con) (p : Int × Int) (w : World) (hok : ConsOk w a cap cs) (hp : periodP mean cs = p) :
    Calls Try.prog 40 #[.agg #[.int .i64 mean, .slice a cs.length cap]] w
      fun e w' => e = .returned (.tuple #[.int .i64 p.1, .int .i64 p.2]) ∧ Below w.heap.size w w' := by
  rw [← hp]; exact period_any mean a cap cs w hok
theorem levelValN (mean : Int) (a : Option Addr) (cap n : Nat) (cs : List Con) (t : Int) (q : (Int × Int) × Int) (w : World) (hn : cs.length = n) (hok : ConsOk w a cap cs) (hq : levelP mean cs t = q) :
    Calls Try.prog 23 #[.agg #[.int .i64 mean, .slice a n cap], .int .i64 t] w
      fun e w' => e = .returned (.tuple #[.agg #[.int .i64 q.1.1, .int .i64 q.1.2], .int .i64 q.2]) ∧ Below w.heap.size w w' := by
  subst hn; exact levelVal mean a cap cs t q w hok hq
theorem A.infoCon : (Try.prog.info? 68).map (fun i => (i.zero, i.size, i.bytes)) = some (some (.agg #[.string ⟨#[]⟩, .slice none 0 0, .int .i64 0, .int .i64 0, .int .i64 0, .int .i64 0]), 6, 72) := by kernel_rfl
end Go.Proofs.Ytblneiegekdnjaa
