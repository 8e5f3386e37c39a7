/- Tide, part OG: gauges in a row that the call itself gathered. -/
import Derived.Test.YtblneiegekdnjaaSC
import Derived.Deep.AppendLies
set_option linter.all false
namespace Go.Proofs.Ytblneiegekdnjaa
open Go.RowKit Go.Shelf

/-- Gauges in a row that the call itself gathered. -/
def gauCells (g : Gau) (p : GPos) : List Value := [.string g.name, .int .i64 g.err, .int .i64 g.rate, .slice p.da g.ds.length p.dc, .slice p.ra g.rs.length p.rc]
def gauVals (l : List (Gau × GPos)) : List Value := l.flatMap fun r => gauCells r.1 r.2
theorem gauVals_snoc (l : List (Gau × GPos)) (r : Gau × GPos) : gauVals (l ++ [r]) = gauVals l ++ gauCells r.1 r.2 := by simp [gauVals]
theorem gauVals_get : ∀ (l : List (Gau × GPos)) (i : Nat) (h : i < l.length) (j : Nat) (_ : j < 5), (gauVals l)[i * 5 + j]? = (gauCells l[i].1 l[i].2)[j]?
  | [], i, h, _, _ => by simp at h
  | r :: l, 0, h, j, hj => by
    have e : gauVals (r :: l) = gauCells r.1 r.2 ++ gauVals l := rfl
    rw [e, Nat.zero_mul, Nat.zero_add, List.getElem?_append_left (by simp [gauCells]; omega)]
    rfl
  | r :: l, i + 1, h, j, hj => by
    have := gauVals_get l i (by simpa using h) j hj
    have e : gauVals (r :: l) = gauCells r.1 r.2 ++ gauVals l := rfl
    have e5 : (gauCells r.1 r.2).length = 5 := rfl
    rw [e, List.getElem?_append_right (by rw [e5]; omega), e5, show (i + 1) * 5 + j - 5 = i * 5 + j by omega]
    simpa using this
theorem gauVals_len (l : List (Gau × GPos)) : (gauVals l).length = l.length * 5 := by
  induction l with
  | nil => rfl
  | cons r l ih => have e : gauVals (r :: l) = gauCells r.1 r.2 ++ gauVals l := rfl; rw [e, List.length_append, ih]; simp [gauCells]; omega
theorem gausAt_of_own {w : World} {base : Nat} {T : TypeId} {v : Value} {l : List (Gau × GPos)} (h : w.ownsRow base T 5 v l.length (gauVals l)) (hok : ∀ r ∈ l, GauOk w r.2 r.1) :
    ∃ a cap, v = .slice a (l.map Prod.fst).length cap ∧ (l.map Prod.fst).length ≤ cap ∧ GausAt w a (l.map Prod.fst) := by
  rcases h.2 with ⟨rfl, hn⟩ | ⟨g, cap, cur, rfl, hb, hg, hcap, _⟩
  · have h0 := List.length_eq_zero_iff.1 hn
    exact ⟨none, 0, by simp [h0], by simp [h0], .inl (by simp [h0])⟩
  · refine ⟨_, cap, by simp, by simpa using hcap, .inr ⟨g, 0, fun i => (l.getD i (default, ⟨none, 0, none, 0⟩)).2, rfl, (Array.getElem?_eq_some_iff.1 hg).1, fun i hi => ?_⟩⟩
    have hi' : i < l.length := by simpa using hi
    have c : ∀ j, j < 5 → ∀ u, (gauCells l[i].1 l[i].2)[j]? = some u → w.cell? ⟨g, 0 + i * 5 + j, none⟩ = some u := fun j hj u hu => by
      have := h.cells (g := g) rfl (i * 5 + j) u (by rw [gauVals_get l i hi' j hj]; exact hu)
      rw [addr_add0] at this
      rw [show 0 + i * 5 + j = i * 5 + j by omega]; exact this
    rw [List.getElem_map]
    have e2 : (l.getD i (default, ⟨none, 0, none, 0⟩)).2 = l[i].2 := by simp [List.getD, hi']
    simp only [e2]
    exact ⟨⟨c 0 (by omega) _ rfl, c 1 (by omega) _ rfl, c 2 (by omega) _ rfl, c 3 (by omega) _ rfl, c 4 (by omega) _ rfl⟩, hok _ (List.getElem_mem _)⟩
/-- Gauges, with where they are. -/
def prsG (ps : Nat → GPos) (s : Nat) : List Gau → List (Gau × GPos)
  | [] => []
  | g :: r => (g, ps s) :: prsG ps (s + 1) r
theorem prsG_fst (ps : Nat → GPos) : ∀ (s : Nat) (l : List Gau), (prsG ps s l).map Prod.fst = l
  | _, [] => rfl
  | s, g :: r => by simp [prsG, prsG_fst ps (s + 1) r]
theorem prsG_len (ps : Nat → GPos) : ∀ (s : Nat) (l : List Gau), (prsG ps s l).length = l.length
  | _, [] => rfl
  | s, g :: r => by simp [prsG, prsG_len ps (s + 1) r]
theorem prsG_get (ps : Nat → GPos) : ∀ (s : Nat) (l : List Gau) (i : Nat) (h : i < (prsG ps s l).length) (h' : i < l.length), (prsG ps s l)[i] = (l[i], ps (s + i))
  | _, [], i, h, _ => by simp [prsG] at h
  | s, g :: r, 0, _, _ => rfl
  | s, g :: r, i + 1, h, h' => by
    have := prsG_get ps (s + 1) r i (by simpa [prsG] using h) (by simpa using h')
    simpa [prsG, Nat.add_assoc, Nat.add_comm 1 i] using this
theorem gau_cells {w : World} {b o : Nat} {l : List (Gau × GPos)} (h : ∀ i (hi : i < l.length), GauAt w b (o + i * 5) l[i].1 l[i].2) :
    ∀ k u, (gauVals l)[k]? = some u → w.cell? ((⟨b, o, none⟩ : Addr).add k) = some u := fun k u hu => by
  have hk : k < l.length * 5 := by
    have := (List.getElem?_eq_some_iff.1 hu).1
    rwa [gauVals_len] at this
  have hi : k / 5 < l.length := by omega
  have hj : k % 5 < 5 := Nat.mod_lt _ (by decide)
  have e : k / 5 * 5 + k % 5 = k := by omega
  have hg := gauVals_get l (k / 5) hi (k % 5) hj
  rw [e, hu] at hg
  have ha : (⟨b, o, none⟩ : Addr).add k = ⟨b, o + k / 5 * 5 + k % 5, none⟩ := by
    have : o + k / 5 * 5 + k % 5 = o + k := by omega
    rw [this]; unfold Addr.add; split <;> simp_all
  rw [ha]
  have hA := h _ hi
  generalize l[k / 5].1 = g at *
  generalize l[k / 5].2 = p at *
  rcases (show k % 5 = 0 ∨ k % 5 = 1 ∨ k % 5 = 2 ∨ k % 5 = 3 ∨ k % 5 = 4 by omega) with h5 | h5 | h5 | h5 | h5 <;> rw [h5] at hg ⊢ <;> simp [gauCells] at hg <;> subst hg
  · exact hA.c0
  · exact hA.c1
  · exact hA.c2
  · exact hA.c3
  · exact hA.c4
/-- A list without elements that was made. -/
theorem own_empty {w : World} {b base size : Nat} {T : TypeId} (hb : base ≤ b) (h : w.heap[b]? = some (.cells #[] T (0, 0))) : w.ownsRow base T size (.slice (some ⟨b, 0, none⟩) 0 0) 0 [] :=
  ⟨by simp, .inr ⟨b, 0, #[], rfl, hb, h, by simp, by simp [maxLen], by simp, by simp⟩⟩

theorem prsG_tail {w : World} {b o : Nat} {ps : Nat → GPos} {gs : List Gau} (h : ∀ i (hi : i < gs.length), GauAt w b (o + i * 5) gs[i] (ps i)) :
    ∀ i (hi : i < (prsG ps 1 gs.tail).length), GauAt w b (o + 5 + i * 5) (prsG ps 1 gs.tail)[i].1 (prsG ps 1 gs.tail)[i].2 := fun i hi => by
  have hl : i < gs.tail.length := by rwa [prsG_len] at hi
  have hl' : i + 1 < gs.length := by simpa using (by rw [List.length_tail] at hl; omega : i + 1 < gs.length)
  rw [prsG_get ps 1 gs.tail i hi hl]
  have := h (i + 1) hl'
  rw [show o + 5 + i * 5 = o + (i + 1) * 5 by omega, Nat.add_comm 1 i]
  simpa using this
theorem gau_one (l : List (Gau × GPos)) : ∀ u ∈ gauVals l, u.oneCell' = true := by
  intro u hu
  obtain ⟨r, _, h⟩ := List.mem_flatMap.1 hu
  simp [gauCells] at h
  rcases h with rfl | rfl | rfl | rfl | rfl <;> rfl

end Go.Proofs.Ytblneiegekdnjaa
