/- Gate, part LD: the walk of GateSteps. -/
import Derived.Test.YtdoklolinbmhpaaGreatCS
import Derived.Test.YtdoklolinbmhpaaGreatYS
import Derived.Test.YtdoklolinbmhpaaGreatWZ
set_option linter.all false
namespace Go.Proofs.YtdoklolinbmhpaaGreat
open Go.RowKit

/-- The values of the part of a region in which a step is called. -/
def lawV (N : Nat) (v : (St × Int × Int × Int) × Int) : Nat → Value → World → Prop
  | 6 => fun u _ => u = .tuple #[.agg #[.int .i64 v.1.1.pos, .int .i64 v.1.1.charge, .bool v.1.1.bolted], .agg #[.int .i64 v.1.2.1, .int .i64 v.1.2.2.1, .int .i64 v.1.2.2.2], .int .i64 v.2]
  | 7 => fun u _ => u = .tuple #[.agg #[.int .i64 v.1.1.pos, .int .i64 v.1.1.charge, .bool v.1.1.bolted], .agg #[.int .i64 v.1.2.1, .int .i64 v.1.2.2.1, .int .i64 v.1.2.2.2], .int .i64 v.2]
  | 8 => fun u _ => u = .agg #[.int .i64 v.1.1.pos, .int .i64 v.1.1.charge, .bool v.1.1.bolted]
  | 9 => fun u _ => u = .agg #[.int .i64 v.1.2.1, .int .i64 v.1.2.2.1, .int .i64 v.1.2.2.2]
  | 10 => fun u _ => u = .int .i64 v.2
  | 11 => NewV N [.int .i64 0, .int .i64 0, .bool false]
  | 12 => NewV N [.int .i64 0, .int .i64 0, .int .i64 0]
  | _ => fun _ _ => True
theorem lawV_stable (N : Nat) (v : (St × Int × Int × Int) × Int) : ∀ i u w w', lawV N v i u w → Below w.heap.size w w' → lawV N v i u w' := by
  intro i u w w' h hb
  unfold lawV at *
  split at h
  all_goals first | exact NewV.later h hb | exact h
theorem keepLd {w V x y : World} {g : Gt} {p : GtP} {s : St} {t : Sp} {b o k : Nat} (hbV : b < V.heap.size) (hb : Below x.heap.size x y) (h : DrW w g p s x ∧ Below V.heap.size V x ∧ x.cell? ⟨w.heap.size + 1, 0, none⟩ = some (.int .i64 s.pos) ∧ x.cell? ⟨w.heap.size + 1, 1, none⟩ = some (.int .i64 s.charge) ∧ x.cell? ⟨w.heap.size + 1, 2, none⟩ = some (.bool s.bolted) ∧ x.cell? ⟨b, o + k * 4, none⟩ = some (.int .i64 t.order) ∧ x.cell? ⟨b, o + k * 4 + 1, none⟩ = some (.bool t.power) ∧ x.cell? ⟨b, o + k * 4 + 2, none⟩ = some (.int .i64 t.outer) ∧ x.cell? ⟨b, o + k * 4 + 3, none⟩ = some (.int .i64 t.inner)) : DrW w g p s y ∧ Below V.heap.size V y ∧ y.cell? ⟨w.heap.size + 1, 0, none⟩ = some (.int .i64 s.pos) ∧ y.cell? ⟨w.heap.size + 1, 1, none⟩ = some (.int .i64 s.charge) ∧ y.cell? ⟨w.heap.size + 1, 2, none⟩ = some (.bool s.bolted) ∧ y.cell? ⟨b, o + k * 4, none⟩ = some (.int .i64 t.order) ∧ y.cell? ⟨b, o + k * 4 + 1, none⟩ = some (.bool t.power) ∧ y.cell? ⟨b, o + k * 4 + 2, none⟩ = some (.int .i64 t.outer) ∧ y.cell? ⟨b, o + k * 4 + 3, none⟩ = some (.int .i64 t.inner) := by
  have hl := h.1.lt
  have hs := h.2.1.size
  have c : ∀ d j, d < x.heap.size → y.cell? ⟨d, j, none⟩ = x.cell? ⟨d, j, none⟩ := fun d j hd => hb.cell (p := ⟨d, j, none⟩) hd
  obtain ⟨h1, h2, h3, h4, h5, h6, h7, h8, h9⟩ := h
  exact ⟨h1.later hb, h2.trans (hb.mono hs), (c _ _ hl).trans h3, (c _ _ hl).trans h4, (c _ _ hl).trans h5, (c _ _ (by omega)).trans h6, (c _ _ (by omega)).trans h7, (c _ _ (by omega)).trans h8, (c _ _ (by omega)).trans h9⟩
theorem setLd {w V x : World} {g : Gt} {p : GtP} {s : St} {t : Sp} {b o k A j : Nat} (hbV : b < V.heap.size) (hw : w.heap.size + 1 < V.heap.size) (hA : V.heap.size ≤ A) (u : Value) (h : DrW w g p s x ∧ Below V.heap.size V x ∧ x.cell? ⟨w.heap.size + 1, 0, none⟩ = some (.int .i64 s.pos) ∧ x.cell? ⟨w.heap.size + 1, 1, none⟩ = some (.int .i64 s.charge) ∧ x.cell? ⟨w.heap.size + 1, 2, none⟩ = some (.bool s.bolted) ∧ x.cell? ⟨b, o + k * 4, none⟩ = some (.int .i64 t.order) ∧ x.cell? ⟨b, o + k * 4 + 1, none⟩ = some (.bool t.power) ∧ x.cell? ⟨b, o + k * 4 + 2, none⟩ = some (.int .i64 t.outer) ∧ x.cell? ⟨b, o + k * 4 + 3, none⟩ = some (.int .i64 t.inner)) : DrW w g p s (x.setCell ⟨A, j, none⟩ u) ∧ Below V.heap.size V (x.setCell ⟨A, j, none⟩ u) ∧ (x.setCell ⟨A, j, none⟩ u).cell? ⟨w.heap.size + 1, 0, none⟩ = some (.int .i64 s.pos) ∧ (x.setCell ⟨A, j, none⟩ u).cell? ⟨w.heap.size + 1, 1, none⟩ = some (.int .i64 s.charge) ∧ (x.setCell ⟨A, j, none⟩ u).cell? ⟨w.heap.size + 1, 2, none⟩ = some (.bool s.bolted) ∧ (x.setCell ⟨A, j, none⟩ u).cell? ⟨b, o + k * 4, none⟩ = some (.int .i64 t.order) ∧ (x.setCell ⟨A, j, none⟩ u).cell? ⟨b, o + k * 4 + 1, none⟩ = some (.bool t.power) ∧ (x.setCell ⟨A, j, none⟩ u).cell? ⟨b, o + k * 4 + 2, none⟩ = some (.int .i64 t.outer) ∧ (x.setCell ⟨A, j, none⟩ u).cell? ⟨b, o + k * 4 + 3, none⟩ = some (.int .i64 t.inner) := by
  have c : ∀ d i, d < A → (x.setCell ⟨A, j, none⟩ u).cell? ⟨d, i, none⟩ = x.cell? ⟨d, i, none⟩ := fun d i hd => cs_o (.inl (by omega))
  obtain ⟨h1, h2, h3, h4, h5, h6, h7, h8, h9⟩ := h
  exact ⟨⟨h1.below.setCell (by show w.heap.size ≤ A; omega) _, by simpa using h1.lt, fun j v hv => (c _ _ (by omega)).trans (h1.rows j v hv), fun j v hv => (c _ _ (by omega)).trans (h1.ss j v hv)⟩, h2.setCell (by show V.heap.size ≤ A; omega) _, (c _ _ (by omega)).trans h3, (c _ _ (by omega)).trans h4, (c _ _ (by omega)).trans h5, (c _ _ (by omega)).trans h6, (c _ _ (by omega)).trans h7, (c _ _ (by omega)).trans h8, (c _ _ (by omega)).trans h9⟩
set_option maxRecDepth 100000 in
set_option maxHeartbeats 64000000 in
theorem lawSteps_any (g : Gt) (p : GtP) (s : St) (ta : Option Addr) (ts : List Sp) (tcp n : Nat) (w : World) (hn : ts.length = n) (hn8 : n ≤ 140737488355328) (hok : GtOk w p g) (hts : RowsL (fun _ s => spL s) 4 w ta ts) :
    Calls Tryz.prog 3 #[.agg (gtL g p).toArray, .agg #[.int .i64 s.pos, .int .i64 s.charge, .bool s.bolted], .slice ta n tcp] w fun e w' => e = .returned (.bool true) ∧ Below w.heap.size w w' := by
  have HSt := hid (fun t W (hW : Below w.heap.size w W) => stepFn_any g p s t W (hok.later hW (Nat.le_refl _)))
  have HRs := hid (fun t W (hW : Below w.heap.size w W) => rStep_any g p s t W (hok.later hW (Nat.le_refl _)))
  have HRu := hid (fun W (hW : Below w.heap.size w W) => run_any g p s ta ts tcp n W hn hn8 (hok.later hW (Nat.le_refl _)) (hts.later hW (Nat.le_refl _)))
  have HRr := hid (fun W (hW : Below w.heap.size w W) => rRun_any g p s ta ts tcp n W hn hn8 (hok.later hW (Nat.le_refl _)) (hts.later hW (Nat.le_refl _)))
  have HTs := hid hts; have HLn := hid hn
  have hrl : (runL g s ts).length ≤ 140737488355328 := by
    unfold runL
    split
    · rw [scan_len, hn]; exact hn8
    · simp
  have H0 := DrW.start w g p s
  clear hok hts hn
  go_enter Tryz.func3, Tryz.ntmps3
  go_upto_region 1 with fail
  generalize World.alloc (World.alloc w _) _ = W1 at *
  have H1 := hid H0
  clear H0
  go_wp2_with fail
  go_loopw [7] (fun iv wr => ∃ k : Nat, k ≤ n ∧ k ≤ 20 ∧ iv = .int .i64 k ∧ Hid (DrW w g p s wr)) (fun iv _ => n - (intOf iv).toNat)
  case atStart => exact ⟨0, Nat.zero_le _, by omega, rfl, H1⟩
  case round =>
    obtain ⟨k, hk, hk20, rfl, HD⟩ := hrel
    by_cases hin : k < n ∧ k < 20
    · obtain ⟨hlt, h20⟩ := hin
      have hkI : (k : Int) < (n : Int) := by omega
      have hk0 : (0 : Int) ≤ (k : Int) := Int.natCast_nonneg _
      have h20I : (k : Int) < 20 := by omega
      have vk : IntKind.i64.wrap ((k : Int) + 1) = ((k + 1 : Nat) : Int) := by rw [IntWalk.i64_in _ (by omega)]; omega
      have hkl : k < ts.length := by rw [HLn.out]; exact hlt
      obtain ⟨b, o, hta, hb, hat⟩ := HTs.out.row (by omega)
      have Rt := range_later (hat k hkl) HD.out.below hb
      generalize ts[k] = t at *
      have HStt := hid (fun W hW => HSt.out t W hW)
      have HRst := hid (fun W hW => HRs.out t W hW)
      generalize stepP g s t = v at *
      have t0 : wr.cell? ⟨b, o + k * 4, none⟩ = some (.int .i64 t.order) := by simpa using Rt 0 _ (show (spL t)[0]? = some (.int .i64 t.order) from rfl)
      have t1 : wr.cell? ⟨b, o + k * 4 + 1, none⟩ = some (.bool t.power) := Rt 1 _ rfl
      have t2 : wr.cell? ⟨b, o + k * 4 + 2, none⟩ = some (.int .i64 t.outer) := Rt 2 _ rfl
      have t3 : wr.cell? ⟨b, o + k * 4 + 3, none⟩ = some (.int .i64 t.inner) := Rt 3 _ rfl
      have s0 := range_cell HD.out.ss (show (stL s)[0]? = some (.int .i64 s.pos) from rfl)
      have s1 := range_cell HD.out.ss (show (stL s)[1]? = some (.int .i64 s.charge) from rfl)
      have s2 := range_cell HD.out.ss (show (stL s)[2]? = some (.bool s.bolted) from rfl)
      have hwV : w.heap.size + 1 < wr.heap.size := HD.out.lt
      have hbV : b < wr.heap.size := by have := HD.out.below.size; omega
      subst hta
      clear Rt hat hkl hb
      go_upto_region 4 with fail
      obtain ⟨V, hV⟩ : ∃ X, X = wr := ⟨_, rfl⟩
      subst hV
      refine wp_region_noPanic ?_
      refine wp_region_held_drew (S := (fun w' => DrW w g p s w' ∧ Below V.heap.size V w' ∧ w'.cell? ⟨w.heap.size + 1, 0, none⟩ = some (.int .i64 s.pos) ∧ w'.cell? ⟨w.heap.size + 1, 1, none⟩ = some (.int .i64 s.charge) ∧ w'.cell? ⟨w.heap.size + 1, 2, none⟩ = some (.bool s.bolted) ∧ w'.cell? ⟨b, o + k * 4, none⟩ = some (.int .i64 t.order) ∧ w'.cell? ⟨b, o + k * 4 + 1, none⟩ = some (.bool t.power) ∧ w'.cell? ⟨b, o + k * 4 + 2, none⟩ = some (.int .i64 t.outer) ∧ w'.cell? ⟨b, o + k * 4 + 3, none⟩ = some (.int .i64 t.inner))) (by kernel_rfl) ?_ (fun hHeld => ?_)
      · exact ⟨HD.out.drew, (Below.refl _ _).drew, by simpa using s0, by simpa using s1, by simpa using s2, by simpa using t0, by simpa using t1, by simpa using t2, by simpa using t3⟩
      refine wpAnyH_take (i := 0) (oi := { dst := _, op := _, type := _, pos := _, after := _, guard := _ }) (v := .agg (gtL g p).toArray) rfl (by kernel_rfl) (by kernel_rfl) (by kernel_rfl) (fun _ _ _ h => h) (yieldsIf_load_mid (by rfl) 25 _ rfl w.heap.size 0 rfl (gtL g p) _ (fun _ hS => hS.1.rows) Tryz.underlying25 rfl (by kernel_rfl)) (by assumption) ?_
      try simp only [Act.put, List.setIfInBounds_toArray, List.set_cons_zero, List.set_cons_succ]
      refine wpAnyH_take (i := 1) (oi := { dst := _, op := _, type := _, pos := _, after := _, guard := _ }) (v := ?_) rfl (by kernel_rfl) (by kernel_rfl) (by kernel_rfl) (fun _ _ _ h => h) (Or.inl ⟨by rfl, ?_⟩) (by assumption) ?_
      rotate_left
      · intro wS hSw; (try dsimp only at hSw); go_simp; try (with_reducible rfl)
      try simp only [Act.put, List.setIfInBounds_toArray, List.set_cons_zero, List.set_cons_succ]
      refine wpAnyH_take (i := 2) (oi := { dst := _, op := _, type := _, pos := _, after := _, guard := _ }) (v := ?_) rfl (by kernel_rfl) (by kernel_rfl) (by kernel_rfl) (fun _ _ _ h => h) (Or.inl ⟨by rfl, ?_⟩) (by assumption) ?_
      rotate_left
      · intro wS hSw; (try dsimp only at hSw); go_simp; try (with_reducible rfl)
      try simp only [Act.put, List.setIfInBounds_toArray, List.set_cons_zero, List.set_cons_succ]
      refine wpAnyH_take (i := 3) (oi := { dst := _, op := _, type := _, pos := _, after := _, guard := _ }) (v := ?_) rfl (by kernel_rfl) (by kernel_rfl) (by kernel_rfl) (fun _ _ _ h => h) (Or.inl ⟨by rfl, ?_⟩) (by assumption) ?_
      rotate_left
      · intro wS hSw; (try dsimp only at hSw); go_simp; try (with_reducible rfl)
      try simp only [Act.put, List.setIfInBounds_toArray, List.set_cons_zero, List.set_cons_succ]
      refine wpAnyH_take (i := 4) (oi := { dst := _, op := _, type := _, pos := _, after := _, guard := _ }) (v := ?_) rfl (by kernel_rfl) (by kernel_rfl) (by kernel_rfl) (fun _ _ _ h => h) (Or.inl ⟨by rfl, ?_⟩) (by assumption) ?_
      rotate_left
      · intro wS hSw; (try dsimp only at hSw); go_simp; try (with_reducible rfl)
      try simp only [Act.put, List.setIfInBounds_toArray, List.set_cons_zero, List.set_cons_succ]
      refine wpAnyH_take (i := 5) (oi := { dst := _, op := _, type := _, pos := _, after := _, guard := _ }) (v := ?_) rfl (by kernel_rfl) (by kernel_rfl) (by kernel_rfl) (fun _ _ _ h => h) (Or.inl ⟨by rfl, ?_⟩) (by assumption) ?_
      rotate_left
      · intro wS hSw; (try dsimp only at hSw); go_simp; try (with_reducible rfl)
      try simp only [Act.put, List.setIfInBounds_toArray, List.set_cons_zero, List.set_cons_succ]
      refine wpAnyH_partXAlts (lawV V.heap.size v) [9, 10] #[true, true, true, true, true, true, true, true, true, true, true, true, true, false, false, false] 88 7 3 rfl rfl (by decide +kernel) (by decide +kernel) (by kernel_rfl) (by kernel_rfl) (by decide +kernel) (by decide +kernel) (lawV_stable _ _) (by assumption) (by decide +kernel) (fun i o ho hd hd1 d a wv hS hI hall => ?_) [(#[true, true, true, true, true, true, true, true, true, true, true, true, true, false, false, false], [(6, 35), (7, 28), (8, 36), (9, 37), (10, 38), (11, 8), (12, 9)], 0), (#[true, true, true, true, true, true, true, true, true, false, true, true, true, false, false, false], [(6, 35), (7, 28), (8, 36), (10, 38), (11, 8), (12, 9)], 1), (#[true, true, true, true, true, true, true, true, true, true, false, true, true, false, false, false], [(6, 35), (7, 28), (8, 36), (9, 37), (11, 8), (12, 9)], 1), (#[true, true, true, true, true, true, true, true, true, false, false, true, true, false, false, false], [(6, 35), (7, 28), (8, 36), (11, 8), (12, 9)], 2)] (fun b => by rcases h9 : b 9 with _ | _ <;> rcases h10 : b 10 with _ | _ <;> simp [maskD, h9, h10]) (by decide +kernel) (fun alt halt vs wv hS hV => ?_)
      · have hm := todo_mem (l := [6, 7, 8, 9, 10, 11, 12, 13, 14, 15]) (by decide +kernel) ho hd
        simp only [List.mem_cons, List.not_mem_nil, or_false] at hm
        rcases hm with rfl | rfl | rfl | rfl | rfl | rfl | rfl | rfl | rfl | rfl
        · injection ho with ho
          subst ho
          have e29 := hI.old (t := 29) (by decide +kernel) rfl
          have e30 := hI.old (t := 30) (by decide +kernel) rfl
          have e34 := hI.old (t := 34) (by decide +kernel) rfl
          refine wp_callF (F := 8) (args := #[.agg (gtL g p).toArray, .agg #[.int .i64 s.pos, .int .i64 s.charge, .bool s.bolted], .agg #[.int .i64 t.order, .bool t.power, .int .i64 t.outer, .int .i64 t.inner]]) (by simp [execOp, go_sem, e29, e30, e34]) ?_
          refine (HStt.out _ hS.1.below).mono ?_
          rintro e w' ⟨rfl, hb⟩
          exact ⟨_, rfl, _, rfl, rfl, keepLd hbV hb hS, hb⟩
        · injection ho with ho
          subst ho
          obtain ⟨v6, e6, V6⟩ := hI.new (i := 6) (t := 35) rfl (by decide +kernel) (hall ⟨6, .data⟩ (by simp) rfl) rfl
          obtain rfl : v6 = .tuple #[.agg #[.int .i64 v.1.1.pos, .int .i64 v.1.1.charge, .bool v.1.1.bolted], .agg #[.int .i64 v.1.2.1, .int .i64 v.1.2.2.1, .int .i64 v.1.2.2.2], .int .i64 v.2] := V6
          refine wp_valF (v := .tuple #[.agg #[.int .i64 v.1.1.pos, .int .i64 v.1.1.charge, .bool v.1.1.bolted], .agg #[.int .i64 v.1.2.1, .int .i64 v.1.2.2.1, .int .i64 v.1.2.2.2], .int .i64 v.2]) (w' := wv) (by simp [execOp, go_sem, e6]) ?_
          exact ⟨_, rfl, rfl, hS, Below.refl _ _⟩
        · injection ho with ho
          subst ho
          obtain ⟨v7, e7, V7⟩ := hI.new (i := 7) (t := 28) rfl (by decide +kernel) (hall ⟨7, .data⟩ (by simp) rfl) rfl
          obtain rfl : v7 = .tuple #[.agg #[.int .i64 v.1.1.pos, .int .i64 v.1.1.charge, .bool v.1.1.bolted], .agg #[.int .i64 v.1.2.1, .int .i64 v.1.2.2.1, .int .i64 v.1.2.2.2], .int .i64 v.2] := V7
          refine wp_valF (v := .agg #[.int .i64 v.1.1.pos, .int .i64 v.1.1.charge, .bool v.1.1.bolted]) (w' := wv) (by simp [execOp, go_sem, e7]) ?_
          exact ⟨_, rfl, rfl, hS, Below.refl _ _⟩
        · injection ho with ho
          subst ho
          obtain ⟨v7, e7, V7⟩ := hI.new (i := 7) (t := 28) rfl (by decide +kernel) (hall ⟨7, .data⟩ (by simp) rfl) rfl
          obtain rfl : v7 = .tuple #[.agg #[.int .i64 v.1.1.pos, .int .i64 v.1.1.charge, .bool v.1.1.bolted], .agg #[.int .i64 v.1.2.1, .int .i64 v.1.2.2.1, .int .i64 v.1.2.2.2], .int .i64 v.2] := V7
          refine wp_valF (v := .agg #[.int .i64 v.1.2.1, .int .i64 v.1.2.2.1, .int .i64 v.1.2.2.2]) (w' := wv) (by simp [execOp, go_sem, e7]) ?_
          exact ⟨_, rfl, rfl, hS, Below.refl _ _⟩
        · injection ho with ho
          subst ho
          obtain ⟨v7, e7, V7⟩ := hI.new (i := 7) (t := 28) rfl (by decide +kernel) (hall ⟨7, .data⟩ (by simp) rfl) rfl
          obtain rfl : v7 = .tuple #[.agg #[.int .i64 v.1.1.pos, .int .i64 v.1.1.charge, .bool v.1.1.bolted], .agg #[.int .i64 v.1.2.1, .int .i64 v.1.2.2.1, .int .i64 v.1.2.2.2], .int .i64 v.2] := V7
          refine wp_valF (v := .int .i64 v.2) (w' := wv) (by simp [execOp, go_sem, e7]) ?_
          exact ⟨_, rfl, rfl, hS, Below.refl _ _⟩
        · injection ho with ho
          subst ho
          refine wp_valF (v := .pointer (some ⟨wv.heap.size, 0, none⟩)) (w' := wv.alloc (.cells #[.int .i64 0, .int .i64 0, .bool false] 27)) (by simp [execOp, go_sem]) ?_
          have hb : Below wv.heap.size wv (wv.alloc (.cells #[.int .i64 0, .int .i64 0, .bool false] 27)) := (Below.refl _ _).alloc (Nat.le_refl _) _
          exact ⟨_, rfl, NewV.fresh _ _ _ _ hS.2.1.size, keepLd hbV hb hS, hb⟩
        · injection ho with ho
          subst ho
          refine wp_valF (v := .pointer (some ⟨wv.heap.size, 0, none⟩)) (w' := wv.alloc (.cells #[.int .i64 0, .int .i64 0, .int .i64 0] 31)) (by simp [execOp, go_sem]) ?_
          have hb : Below wv.heap.size wv (wv.alloc (.cells #[.int .i64 0, .int .i64 0, .int .i64 0] 31)) := (Below.refl _ _).alloc (Nat.le_refl _) _
          exact ⟨_, rfl, NewV.fresh _ _ _ _ hS.2.1.size, keepLd hbV hb hS, hb⟩
        · exact absurd hd1 (by decide)
        · exact absurd hd1 (by decide)
        · exact absurd hd1 (by decide)
      simp only [List.mem_cons, List.not_mem_nil, or_false] at halt
      rcases halt with rfl | rfl | rfl | rfl
      · dsimp only at hV ⊢
        have V6 : vs 35 = .tuple #[.agg #[.int .i64 v.1.1.pos, .int .i64 v.1.1.charge, .bool v.1.1.bolted], .agg #[.int .i64 v.1.2.1, .int .i64 v.1.2.2.1, .int .i64 v.1.2.2.2], .int .i64 v.2] := hV (6, 35) (by simp)
        have V7 : vs 28 = .tuple #[.agg #[.int .i64 v.1.1.pos, .int .i64 v.1.1.charge, .bool v.1.1.bolted], .agg #[.int .i64 v.1.2.1, .int .i64 v.1.2.2.1, .int .i64 v.1.2.2.2], .int .i64 v.2] := hV (7, 28) (by simp)
        have V8 : vs 36 = .agg #[.int .i64 v.1.1.pos, .int .i64 v.1.1.charge, .bool v.1.1.bolted] := hV (8, 36) (by simp)
        have V9 : vs 37 = .agg #[.int .i64 v.1.2.1, .int .i64 v.1.2.2.1, .int .i64 v.1.2.2.2] := hV (9, 37) (by simp)
        have V10 : vs 38 = .int .i64 v.2 := hV (10, 38) (by simp)
        obtain ⟨A4, eA, hA1, hA2, hA3, hA4⟩ : NewV V.heap.size [.int .i64 0, .int .i64 0, .bool false] (vs 8) wv := hV (11, 8) (by simp)
        obtain ⟨B4, eB, hB1, hB2, hB3, hB4⟩ : NewV V.heap.size [.int .i64 0, .int .i64 0, .int .i64 0] (vs 9) wv := hV (12, 9) (by simp)
        have hAB := box_ne hA3 hB3
        simp only [putL, V6, V7, V8, V9, V10, eA, eB]
        try simp only [Act.put, List.setIfInBounds_toArray, List.set_cons_zero, List.set_cons_succ]
        have hSg := hS
        clear hSg
        clear hV V6 V7 V8 V9 V10 eA eB hHeld
        have a0 := range_cell hA3 (show [_, _, _][0]? = some (Value.int .i64 0) from rfl)
        have a1 := range_cell hA3 (show [_, _, _][1]? = some (Value.int .i64 0) from rfl)
        have a2 := range_cell hA3 (show [_, _, _][2]? = some (Value.bool false) from rfl)
        have b0 := range_cell hB3 (show [_, _, _][0]? = some (Value.int .i64 0) from rfl)
        have b1 := range_cell hB3 (show [_, _, _][1]? = some (Value.int .i64 0) from rfl)
        have b2 := range_cell hB3 (show [_, _, _][2]? = some (Value.int .i64 0) from rfl)
        have HFin := hid (fin10 (U := wv) (A := A4) (B := B4) hAB ⟨_, a0⟩ ⟨_, a1⟩ ⟨_, a2⟩ ⟨_, b0⟩ ⟨_, b1⟩ ⟨_, b2⟩ (.int .i64 v.1.1.pos) (.int .i64 v.1.1.charge) (.bool v.1.1.bolted) (.int .i64 v.1.2.1) (.int .i64 v.1.2.2.1) (.int .i64 v.1.2.2.2))
        have HA3 := hid (setLd (A := A4) (j := 2) hbV hwV hA1 (.bool v.1.1.bolted) (setLd (A := A4) (j := 1) hbV hwV hA1 (.int .i64 v.1.1.charge) (setLd (A := A4) (j := 0) hbV hwV hA1 (.int .i64 v.1.1.pos) hS)))
        have HS6 := hid (setLd (A := B4) (j := 2) hbV hwV hB1 (.int .i64 v.1.2.2.2) (setLd (A := B4) (j := 1) hbV hwV hB1 (.int .i64 v.1.2.2.1) (setLd (A := B4) (j := 0) hbV hwV hB1 (.int .i64 v.1.2.1) HA3.out)))
        clear hA3 hB3 hS
        refine wpAnyH_ready (rs := [13]) (by kernel_rfl) (by simp) ?_
        refine AllReadyH.cons (o := { dst := _, op := _, type := _, pos := _, after := _, guard := _ }) rfl (fun K hK => ?_) AllReadyH.nil
        go_simp
        refine hK.out _ _ ?_ (fun hHeld => ?_)
        · (try dsimp only); exact HA3.out
        clear hK K
        try simp only [Act.put, List.setIfInBounds_toArray, List.set_cons_zero, List.set_cons_succ]
        have c0 : World.cell? _ ⟨B4, 0, none⟩ = _ := (cs_o (x := (wv.setCell ⟨A4, 0, none⟩ (.int .i64 v.1.1.pos)).setCell ⟨A4, 1, none⟩ (.int .i64 v.1.1.charge)) (c := A4) (j := 2) (v := .bool v.1.1.bolted) (.inl (Ne.symm hAB))).trans ((cs_o (.inl (Ne.symm hAB))).trans ((cs_o (.inl (Ne.symm hAB))).trans b0))
        have c1 : World.cell? _ ⟨B4, 1, none⟩ = _ := (cs_o (x := (wv.setCell ⟨A4, 0, none⟩ (.int .i64 v.1.1.pos)).setCell ⟨A4, 1, none⟩ (.int .i64 v.1.1.charge)) (c := A4) (j := 2) (v := .bool v.1.1.bolted) (.inl (Ne.symm hAB))).trans ((cs_o (.inl (Ne.symm hAB))).trans ((cs_o (.inl (Ne.symm hAB))).trans b1))
        have c2 : World.cell? _ ⟨B4, 2, none⟩ = _ := (cs_o (x := (wv.setCell ⟨A4, 0, none⟩ (.int .i64 v.1.1.pos)).setCell ⟨A4, 1, none⟩ (.int .i64 v.1.1.charge)) (c := A4) (j := 2) (v := .bool v.1.1.bolted) (.inl (Ne.symm hAB))).trans ((cs_o (.inl (Ne.symm hAB))).trans ((cs_o (.inl (Ne.symm hAB))).trans b2))
        refine wpAnyH_ready (rs := [14]) (by kernel_rfl) (by simp) ?_
        refine AllReadyH.cons (o := { dst := _, op := _, type := _, pos := _, after := _, guard := _ }) rfl (fun K hK => ?_) AllReadyH.nil
        go_simp
        refine hK.out _ _ ?_ (fun hHeld => ?_)
        · (try dsimp only); exact HS6.out
        clear hK K
        try simp only [Act.put, List.setIfInBounds_toArray, List.set_cons_zero, List.set_cons_succ]
        refine wpAnyH_take (i := 15) (oi := { dst := _, op := _, type := _, pos := _, after := _, guard := _ }) (v := ?_) rfl (by kernel_rfl) (by kernel_rfl) (by kernel_rfl) (fun _ _ _ h => h) (Or.inl ⟨by rfl, ?_⟩) HS6.out ?_
        rotate_left
        · intro wS hSw; (try dsimp only at hSw); go_simp; try (with_reducible rfl)
        try simp only [Act.put, List.setIfInBounds_toArray, List.set_cons_zero, List.set_cons_succ]
        refine wpAnyH_done (by kernel_rfl) ?_ _
        refine NoPanic.normal ?_
        clear a0 a1 a2 b0 b1 b2 c0 c1 c2 HA3 hA4 hB4 hHeld
        generalize World.setCell (World.setCell (World.setCell (World.setCell (World.setCell (World.setCell wv _ _) _ _) _ _) _ _) _ _) _ _ = U at *
        obtain ⟨ak0, ak1, ak2, bk0, bk1, bk2⟩ := HFin.out
        have HD1 := hid HS6.out.1
        obtain ⟨-, hVU, s0, s1, s2, t0, t1, t2, t3⟩ := HS6.out
        have hA4U : A4 < U.heap.size := World.block_lt_of_cell? U _ ak0
        have hB4U : B4 < U.heap.size := World.block_lt_of_cell? U _ bk0
        have hbU : b < U.heap.size := Nat.lt_of_lt_of_le hbV hVU.size
        have hwU : w.heap.size + 1 < U.heap.size := Nat.lt_of_lt_of_le hwV hVU.size
        have AK0 := hid ak0; have AK1 := hid ak1; have AK2 := hid ak2; have BK0 := hid bk0; have BK1 := hid bk1; have BK2 := hid bk2
        clear hVU HFin HS6 hbV hwV hAB hA1 hA2 hB1 hB2 ak0 ak1 ak2 bk0 bk1 bk2
        have hbV := hbU
        have hwV := hwU
        clear hbU hwU
        go_upto_region 5 with fail
        refine wp_region_noPanic ?_
        refine wp_region_held_drew (S := (fun w' => DrW w g p s w' ∧ Below U.heap.size U w' ∧ w'.cell? ⟨w.heap.size + 1, 0, none⟩ = some (.int .i64 s.pos) ∧ w'.cell? ⟨w.heap.size + 1, 1, none⟩ = some (.int .i64 s.charge) ∧ w'.cell? ⟨w.heap.size + 1, 2, none⟩ = some (.bool s.bolted) ∧ w'.cell? ⟨b, o + k * 4, none⟩ = some (.int .i64 t.order) ∧ w'.cell? ⟨b, o + k * 4 + 1, none⟩ = some (.bool t.power) ∧ w'.cell? ⟨b, o + k * 4 + 2, none⟩ = some (.int .i64 t.outer) ∧ w'.cell? ⟨b, o + k * 4 + 3, none⟩ = some (.int .i64 t.inner))) (by kernel_rfl) ?_ (fun hHeld => ?_)
        · exact ⟨HD1.out.drew, (Below.refl _ _).drew, by simpa using s0, by simpa using s1, by simpa using s2, by simpa using t0, by simpa using t1, by simpa using t2, by simpa using t3⟩
        refine wpAnyH_take (i := 0) (oi := { dst := _, op := _, type := _, pos := _, after := _, guard := _ }) (v := .agg (gtL g p).toArray) rfl (by kernel_rfl) (by kernel_rfl) (by kernel_rfl) (fun _ _ _ h => h) (yieldsIf_load_mid (by rfl) 25 _ rfl w.heap.size 0 rfl (gtL g p) _ (fun _ hS => hS.1.rows) Tryz.underlying25 rfl (by kernel_rfl)) (by assumption) ?_
        try simp only [Act.put, List.setIfInBounds_toArray, List.set_cons_zero, List.set_cons_succ]
        refine wpAnyH_take (i := 1) (oi := { dst := _, op := _, type := _, pos := _, after := _, guard := _ }) (v := ?_) rfl (by kernel_rfl) (by kernel_rfl) (by kernel_rfl) (fun _ _ _ h => h) (Or.inl ⟨by rfl, ?_⟩) (by assumption) ?_
        rotate_left
        · intro wS hSw; (try dsimp only at hSw); go_simp; try (with_reducible rfl)
        try simp only [Act.put, List.setIfInBounds_toArray, List.set_cons_zero, List.set_cons_succ]
        refine wpAnyH_take (i := 2) (oi := { dst := _, op := _, type := _, pos := _, after := _, guard := _ }) (v := ?_) rfl (by kernel_rfl) (by kernel_rfl) (by kernel_rfl) (fun _ _ _ h => h) (Or.inl ⟨by rfl, ?_⟩) (by assumption) ?_
        rotate_left
        · intro wS hSw; (try dsimp only at hSw); go_simp; try (with_reducible rfl)
        try simp only [Act.put, List.setIfInBounds_toArray, List.set_cons_zero, List.set_cons_succ]
        refine wpAnyH_take (i := 3) (oi := { dst := _, op := _, type := _, pos := _, after := _, guard := _ }) (v := ?_) rfl (by kernel_rfl) (by kernel_rfl) (by kernel_rfl) (fun _ _ _ h => h) (Or.inl ⟨by rfl, ?_⟩) (by assumption) ?_
        rotate_left
        · intro wS hSw; (try dsimp only at hSw); go_simp; try (with_reducible rfl)
        try simp only [Act.put, List.setIfInBounds_toArray, List.set_cons_zero, List.set_cons_succ]
        refine wpAnyH_take (i := 4) (oi := { dst := _, op := _, type := _, pos := _, after := _, guard := _ }) (v := ?_) rfl (by kernel_rfl) (by kernel_rfl) (by kernel_rfl) (fun _ _ _ h => h) (Or.inl ⟨by rfl, ?_⟩) (by assumption) ?_
        rotate_left
        · intro wS hSw; (try dsimp only at hSw); go_simp; try (with_reducible rfl)
        try simp only [Act.put, List.setIfInBounds_toArray, List.set_cons_zero, List.set_cons_succ]
        refine wpAnyH_take (i := 5) (oi := { dst := _, op := _, type := _, pos := _, after := _, guard := _ }) (v := ?_) rfl (by kernel_rfl) (by kernel_rfl) (by kernel_rfl) (fun _ _ _ h => h) (Or.inl ⟨by rfl, ?_⟩) (by assumption) ?_
        rotate_left
        · intro wS hSw; (try dsimp only at hSw); go_simp; try (with_reducible rfl)
        try simp only [Act.put, List.setIfInBounds_toArray, List.set_cons_zero, List.set_cons_succ]
        refine wpAnyH_partXAlts (lawV U.heap.size v) [9, 10] #[true, true, true, true, true, true, true, true, true, true, true, true, true, false, false, false] 88 7 3 rfl rfl (by decide +kernel) (by decide +kernel) (by kernel_rfl) (by kernel_rfl) (by decide +kernel) (by decide +kernel) (lawV_stable _ _) (by assumption) (by decide +kernel) (fun i o ho hd hd1 d a wv hS hI hall => ?_) [(#[true, true, true, true, true, true, true, true, true, true, true, true, true, false, false, false], [(6, 46), (7, 39), (8, 47), (9, 48), (10, 49), (11, 11), (12, 12)], 0), (#[true, true, true, true, true, true, true, true, true, false, true, true, true, false, false, false], [(6, 46), (7, 39), (8, 47), (10, 49), (11, 11), (12, 12)], 1), (#[true, true, true, true, true, true, true, true, true, true, false, true, true, false, false, false], [(6, 46), (7, 39), (8, 47), (9, 48), (11, 11), (12, 12)], 1), (#[true, true, true, true, true, true, true, true, true, false, false, true, true, false, false, false], [(6, 46), (7, 39), (8, 47), (11, 11), (12, 12)], 2)] (fun b => by rcases h9 : b 9 with _ | _ <;> rcases h10 : b 10 with _ | _ <;> simp [maskD, h9, h10]) (by decide +kernel) (fun alt halt vs wv hS hV => ?_)
        · have hm := todo_mem (l := [6, 7, 8, 9, 10, 11, 12, 13, 14, 15]) (by decide +kernel) ho hd
          simp only [List.mem_cons, List.not_mem_nil, or_false] at hm
          rcases hm with rfl | rfl | rfl | rfl | rfl | rfl | rfl | rfl | rfl | rfl
          · injection ho with ho
            subst ho
            have e40 := hI.old (t := 40) (by decide +kernel) rfl
            have e41 := hI.old (t := 41) (by decide +kernel) rfl
            have e45 := hI.old (t := 45) (by decide +kernel) rfl
            refine wp_callF (F := 9) (args := #[.agg (gtL g p).toArray, .agg #[.int .i64 s.pos, .int .i64 s.charge, .bool s.bolted], .agg #[.int .i64 t.order, .bool t.power, .int .i64 t.outer, .int .i64 t.inner]]) (by simp [execOp, go_sem, e40, e41, e45]) ?_
            refine (HRst.out _ hS.1.below).mono ?_
            rintro e w' ⟨rfl, hb⟩
            exact ⟨_, rfl, _, rfl, rfl, keepLd hbV hb hS, hb⟩
          · injection ho with ho
            subst ho
            obtain ⟨v6, e6, V6⟩ := hI.new (i := 6) (t := 46) rfl (by decide +kernel) (hall ⟨6, .data⟩ (by simp) rfl) rfl
            obtain rfl : v6 = .tuple #[.agg #[.int .i64 v.1.1.pos, .int .i64 v.1.1.charge, .bool v.1.1.bolted], .agg #[.int .i64 v.1.2.1, .int .i64 v.1.2.2.1, .int .i64 v.1.2.2.2], .int .i64 v.2] := V6
            refine wp_valF (v := .tuple #[.agg #[.int .i64 v.1.1.pos, .int .i64 v.1.1.charge, .bool v.1.1.bolted], .agg #[.int .i64 v.1.2.1, .int .i64 v.1.2.2.1, .int .i64 v.1.2.2.2], .int .i64 v.2]) (w' := wv) (by simp [execOp, go_sem, e6]) ?_
            exact ⟨_, rfl, rfl, hS, Below.refl _ _⟩
          · injection ho with ho
            subst ho
            obtain ⟨v7, e7, V7⟩ := hI.new (i := 7) (t := 39) rfl (by decide +kernel) (hall ⟨7, .data⟩ (by simp) rfl) rfl
            obtain rfl : v7 = .tuple #[.agg #[.int .i64 v.1.1.pos, .int .i64 v.1.1.charge, .bool v.1.1.bolted], .agg #[.int .i64 v.1.2.1, .int .i64 v.1.2.2.1, .int .i64 v.1.2.2.2], .int .i64 v.2] := V7
            refine wp_valF (v := .agg #[.int .i64 v.1.1.pos, .int .i64 v.1.1.charge, .bool v.1.1.bolted]) (w' := wv) (by simp [execOp, go_sem, e7]) ?_
            exact ⟨_, rfl, rfl, hS, Below.refl _ _⟩
          · injection ho with ho
            subst ho
            obtain ⟨v7, e7, V7⟩ := hI.new (i := 7) (t := 39) rfl (by decide +kernel) (hall ⟨7, .data⟩ (by simp) rfl) rfl
            obtain rfl : v7 = .tuple #[.agg #[.int .i64 v.1.1.pos, .int .i64 v.1.1.charge, .bool v.1.1.bolted], .agg #[.int .i64 v.1.2.1, .int .i64 v.1.2.2.1, .int .i64 v.1.2.2.2], .int .i64 v.2] := V7
            refine wp_valF (v := .agg #[.int .i64 v.1.2.1, .int .i64 v.1.2.2.1, .int .i64 v.1.2.2.2]) (w' := wv) (by simp [execOp, go_sem, e7]) ?_
            exact ⟨_, rfl, rfl, hS, Below.refl _ _⟩
          · injection ho with ho
            subst ho
            obtain ⟨v7, e7, V7⟩ := hI.new (i := 7) (t := 39) rfl (by decide +kernel) (hall ⟨7, .data⟩ (by simp) rfl) rfl
            obtain rfl : v7 = .tuple #[.agg #[.int .i64 v.1.1.pos, .int .i64 v.1.1.charge, .bool v.1.1.bolted], .agg #[.int .i64 v.1.2.1, .int .i64 v.1.2.2.1, .int .i64 v.1.2.2.2], .int .i64 v.2] := V7
            refine wp_valF (v := .int .i64 v.2) (w' := wv) (by simp [execOp, go_sem, e7]) ?_
            exact ⟨_, rfl, rfl, hS, Below.refl _ _⟩
          · injection ho with ho
            subst ho
            refine wp_valF (v := .pointer (some ⟨wv.heap.size, 0, none⟩)) (w' := wv.alloc (.cells #[.int .i64 0, .int .i64 0, .bool false] 27)) (by simp [execOp, go_sem]) ?_
            have hb : Below wv.heap.size wv (wv.alloc (.cells #[.int .i64 0, .int .i64 0, .bool false] 27)) := (Below.refl _ _).alloc (Nat.le_refl _) _
            exact ⟨_, rfl, NewV.fresh _ _ _ _ hS.2.1.size, keepLd hbV hb hS, hb⟩
          · injection ho with ho
            subst ho
            refine wp_valF (v := .pointer (some ⟨wv.heap.size, 0, none⟩)) (w' := wv.alloc (.cells #[.int .i64 0, .int .i64 0, .int .i64 0] 31)) (by simp [execOp, go_sem]) ?_
            have hb : Below wv.heap.size wv (wv.alloc (.cells #[.int .i64 0, .int .i64 0, .int .i64 0] 31)) := (Below.refl _ _).alloc (Nat.le_refl _) _
            exact ⟨_, rfl, NewV.fresh _ _ _ _ hS.2.1.size, keepLd hbV hb hS, hb⟩
          · exact absurd hd1 (by decide)
          · exact absurd hd1 (by decide)
          · exact absurd hd1 (by decide)
        simp only [List.mem_cons, List.not_mem_nil, or_false] at halt
        rcases halt with rfl | rfl | rfl | rfl
        · dsimp only at hV ⊢
          have V6 : vs 46 = .tuple #[.agg #[.int .i64 v.1.1.pos, .int .i64 v.1.1.charge, .bool v.1.1.bolted], .agg #[.int .i64 v.1.2.1, .int .i64 v.1.2.2.1, .int .i64 v.1.2.2.2], .int .i64 v.2] := hV (6, 46) (by simp)
          have V7 : vs 39 = .tuple #[.agg #[.int .i64 v.1.1.pos, .int .i64 v.1.1.charge, .bool v.1.1.bolted], .agg #[.int .i64 v.1.2.1, .int .i64 v.1.2.2.1, .int .i64 v.1.2.2.2], .int .i64 v.2] := hV (7, 39) (by simp)
          have V8 : vs 47 = .agg #[.int .i64 v.1.1.pos, .int .i64 v.1.1.charge, .bool v.1.1.bolted] := hV (8, 47) (by simp)
          have V9 : vs 48 = .agg #[.int .i64 v.1.2.1, .int .i64 v.1.2.2.1, .int .i64 v.1.2.2.2] := hV (9, 48) (by simp)
          have V10 : vs 49 = .int .i64 v.2 := hV (10, 49) (by simp)
          obtain ⟨A5, eA, hA1, hA2, hA3, hA4⟩ : NewV U.heap.size [.int .i64 0, .int .i64 0, .bool false] (vs 11) wv := hV (11, 11) (by simp)
          obtain ⟨B5, eB, hB1, hB2, hB3, hB4⟩ : NewV U.heap.size [.int .i64 0, .int .i64 0, .int .i64 0] (vs 12) wv := hV (12, 12) (by simp)
          have hAB := box_ne hA3 hB3
          simp only [putL, V6, V7, V8, V9, V10, eA, eB]
          try simp only [Act.put, List.setIfInBounds_toArray, List.set_cons_zero, List.set_cons_succ]
          have hSg := hS
          clear hSg
          clear hV V6 V7 V8 V9 V10 eA eB hHeld
          have a0 := range_cell hA3 (show [_, _, _][0]? = some (Value.int .i64 0) from rfl)
          have a1 := range_cell hA3 (show [_, _, _][1]? = some (Value.int .i64 0) from rfl)
          have a2 := range_cell hA3 (show [_, _, _][2]? = some (Value.bool false) from rfl)
          have b0 := range_cell hB3 (show [_, _, _][0]? = some (Value.int .i64 0) from rfl)
          have b1 := range_cell hB3 (show [_, _, _][1]? = some (Value.int .i64 0) from rfl)
          have b2 := range_cell hB3 (show [_, _, _][2]? = some (Value.int .i64 0) from rfl)
          have HFin := hid (fin10 (U := wv) (A := A5) (B := B5) hAB ⟨_, a0⟩ ⟨_, a1⟩ ⟨_, a2⟩ ⟨_, b0⟩ ⟨_, b1⟩ ⟨_, b2⟩ (.int .i64 v.1.1.pos) (.int .i64 v.1.1.charge) (.bool v.1.1.bolted) (.int .i64 v.1.2.1) (.int .i64 v.1.2.2.1) (.int .i64 v.1.2.2.2))
          have HA3 := hid (setLd (A := A5) (j := 2) hbV hwV hA1 (.bool v.1.1.bolted) (setLd (A := A5) (j := 1) hbV hwV hA1 (.int .i64 v.1.1.charge) (setLd (A := A5) (j := 0) hbV hwV hA1 (.int .i64 v.1.1.pos) hS)))
          have HS6 := hid (setLd (A := B5) (j := 2) hbV hwV hB1 (.int .i64 v.1.2.2.2) (setLd (A := B5) (j := 1) hbV hwV hB1 (.int .i64 v.1.2.2.1) (setLd (A := B5) (j := 0) hbV hwV hB1 (.int .i64 v.1.2.1) HA3.out)))
          clear hA3 hB3 hS
          refine wpAnyH_ready (rs := [13]) (by kernel_rfl) (by simp) ?_
          refine AllReadyH.cons (o := { dst := _, op := _, type := _, pos := _, after := _, guard := _ }) rfl (fun K hK => ?_) AllReadyH.nil
          go_simp
          refine hK.out _ _ ?_ (fun hHeld => ?_)
          · (try dsimp only); exact HA3.out
          clear hK K
          try simp only [Act.put, List.setIfInBounds_toArray, List.set_cons_zero, List.set_cons_succ]
          have c0 : World.cell? _ ⟨B5, 0, none⟩ = _ := (cs_o (x := (wv.setCell ⟨A5, 0, none⟩ (.int .i64 v.1.1.pos)).setCell ⟨A5, 1, none⟩ (.int .i64 v.1.1.charge)) (c := A5) (j := 2) (v := .bool v.1.1.bolted) (.inl (Ne.symm hAB))).trans ((cs_o (.inl (Ne.symm hAB))).trans ((cs_o (.inl (Ne.symm hAB))).trans b0))
          have c1 : World.cell? _ ⟨B5, 1, none⟩ = _ := (cs_o (x := (wv.setCell ⟨A5, 0, none⟩ (.int .i64 v.1.1.pos)).setCell ⟨A5, 1, none⟩ (.int .i64 v.1.1.charge)) (c := A5) (j := 2) (v := .bool v.1.1.bolted) (.inl (Ne.symm hAB))).trans ((cs_o (.inl (Ne.symm hAB))).trans ((cs_o (.inl (Ne.symm hAB))).trans b1))
          have c2 : World.cell? _ ⟨B5, 2, none⟩ = _ := (cs_o (x := (wv.setCell ⟨A5, 0, none⟩ (.int .i64 v.1.1.pos)).setCell ⟨A5, 1, none⟩ (.int .i64 v.1.1.charge)) (c := A5) (j := 2) (v := .bool v.1.1.bolted) (.inl (Ne.symm hAB))).trans ((cs_o (.inl (Ne.symm hAB))).trans ((cs_o (.inl (Ne.symm hAB))).trans b2))
          refine wpAnyH_ready (rs := [14]) (by kernel_rfl) (by simp) ?_
          refine AllReadyH.cons (o := { dst := _, op := _, type := _, pos := _, after := _, guard := _ }) rfl (fun K hK => ?_) AllReadyH.nil
          go_simp
          refine hK.out _ _ ?_ (fun hHeld => ?_)
          · (try dsimp only); exact HS6.out
          clear hK K
          try simp only [Act.put, List.setIfInBounds_toArray, List.set_cons_zero, List.set_cons_succ]
          refine wpAnyH_take (i := 15) (oi := { dst := _, op := _, type := _, pos := _, after := _, guard := _ }) (v := ?_) rfl (by kernel_rfl) (by kernel_rfl) (by kernel_rfl) (fun _ _ _ h => h) (Or.inl ⟨by rfl, ?_⟩) HS6.out ?_
          rotate_left
          · intro wS hSw; (try dsimp only at hSw); go_simp; try (with_reducible rfl)
          try simp only [Act.put, List.setIfInBounds_toArray, List.set_cons_zero, List.set_cons_succ]
          refine wpAnyH_done (by kernel_rfl) ?_ _
          refine NoPanic.normal ?_
          clear a0 a1 a2 b0 b1 b2 c0 c1 c2 HA3 hA4 hB4 hHeld
          generalize World.setCell (World.setCell (World.setCell (World.setCell (World.setCell (World.setCell wv _ _) _ _) _ _) _ _) _ _) _ _ = U2 at *
          obtain ⟨bl0, bl1, bl2, bm0, bm1, bm2⟩ := HFin.out
          have HD2 := hid HS6.out.1
          have hUU := HS6.out.2.1
          have al0 := (hUU.cell (p := ⟨A4, 0, none⟩) hA4U).trans AK0.out
          have al1 := (hUU.cell (p := ⟨A4, 1, none⟩) hA4U).trans AK1.out
          have al2 := (hUU.cell (p := ⟨A4, 2, none⟩) hA4U).trans AK2.out
          have am0 := (hUU.cell (p := ⟨B4, 0, none⟩) hB4U).trans BK0.out
          have am1 := (hUU.cell (p := ⟨B4, 1, none⟩) hB4U).trans BK1.out
          have am2 := (hUU.cell (p := ⟨B4, 2, none⟩) hB4U).trans BK2.out
          clear hUU HFin HS6 hAB hA1 hA2 hB1 hB2 s0 s1 s2 t0 t1 t2 t3
          go_wp2_with fail
          exact ⟨⟨k + 1, by omega, by omega, by go_num, HD2⟩, by simp [intOf]; omega⟩
        · dsimp only at hV ⊢
          have V6 : vs 46 = .tuple #[.agg #[.int .i64 v.1.1.pos, .int .i64 v.1.1.charge, .bool v.1.1.bolted], .agg #[.int .i64 v.1.2.1, .int .i64 v.1.2.2.1, .int .i64 v.1.2.2.2], .int .i64 v.2] := hV (6, 46) (by simp)
          have V7 : vs 39 = .tuple #[.agg #[.int .i64 v.1.1.pos, .int .i64 v.1.1.charge, .bool v.1.1.bolted], .agg #[.int .i64 v.1.2.1, .int .i64 v.1.2.2.1, .int .i64 v.1.2.2.2], .int .i64 v.2] := hV (7, 39) (by simp)
          have V8 : vs 47 = .agg #[.int .i64 v.1.1.pos, .int .i64 v.1.1.charge, .bool v.1.1.bolted] := hV (8, 47) (by simp)
          have V10 : vs 49 = .int .i64 v.2 := hV (10, 49) (by simp)
          obtain ⟨A5, eA, hA1, hA2, hA3, hA4⟩ : NewV U.heap.size [.int .i64 0, .int .i64 0, .bool false] (vs 11) wv := hV (11, 11) (by simp)
          obtain ⟨B5, eB, hB1, hB2, hB3, hB4⟩ : NewV U.heap.size [.int .i64 0, .int .i64 0, .int .i64 0] (vs 12) wv := hV (12, 12) (by simp)
          have hAB := box_ne hA3 hB3
          simp only [putL, V6, V7, V8, V10, eA, eB]
          try simp only [Act.put, List.setIfInBounds_toArray, List.set_cons_zero, List.set_cons_succ]
          have hSg := hS
          refine wpAnyH_take (i := 9) (oi := { dst := _, op := _, type := _, pos := _, after := _, guard := _ }) (v := ?_) rfl (by kernel_rfl) (by kernel_rfl) (by kernel_rfl) (fun _ _ _ h => h) (Or.inl ⟨by rfl, ?_⟩) (by assumption) ?_
          rotate_left
          · intro wS hSw; (try dsimp only at hSw); go_simp; try (with_reducible rfl)
          try simp only [Act.put, List.setIfInBounds_toArray, List.set_cons_zero, List.set_cons_succ]
          clear hSg
          clear hV V6 V7 V8 V10 eA eB hHeld
          have a0 := range_cell hA3 (show [_, _, _][0]? = some (Value.int .i64 0) from rfl)
          have a1 := range_cell hA3 (show [_, _, _][1]? = some (Value.int .i64 0) from rfl)
          have a2 := range_cell hA3 (show [_, _, _][2]? = some (Value.bool false) from rfl)
          have b0 := range_cell hB3 (show [_, _, _][0]? = some (Value.int .i64 0) from rfl)
          have b1 := range_cell hB3 (show [_, _, _][1]? = some (Value.int .i64 0) from rfl)
          have b2 := range_cell hB3 (show [_, _, _][2]? = some (Value.int .i64 0) from rfl)
          have HFin := hid (fin10 (U := wv) (A := A5) (B := B5) hAB ⟨_, a0⟩ ⟨_, a1⟩ ⟨_, a2⟩ ⟨_, b0⟩ ⟨_, b1⟩ ⟨_, b2⟩ (.int .i64 v.1.1.pos) (.int .i64 v.1.1.charge) (.bool v.1.1.bolted) (.int .i64 v.1.2.1) (.int .i64 v.1.2.2.1) (.int .i64 v.1.2.2.2))
          have HA3 := hid (setLd (A := A5) (j := 2) hbV hwV hA1 (.bool v.1.1.bolted) (setLd (A := A5) (j := 1) hbV hwV hA1 (.int .i64 v.1.1.charge) (setLd (A := A5) (j := 0) hbV hwV hA1 (.int .i64 v.1.1.pos) hS)))
          have HS6 := hid (setLd (A := B5) (j := 2) hbV hwV hB1 (.int .i64 v.1.2.2.2) (setLd (A := B5) (j := 1) hbV hwV hB1 (.int .i64 v.1.2.2.1) (setLd (A := B5) (j := 0) hbV hwV hB1 (.int .i64 v.1.2.1) HA3.out)))
          clear hA3 hB3 hS
          refine wpAnyH_ready (rs := [13]) (by kernel_rfl) (by simp) ?_
          refine AllReadyH.cons (o := { dst := _, op := _, type := _, pos := _, after := _, guard := _ }) rfl (fun K hK => ?_) AllReadyH.nil
          go_simp
          refine hK.out _ _ ?_ (fun hHeld => ?_)
          · (try dsimp only); exact HA3.out
          clear hK K
          try simp only [Act.put, List.setIfInBounds_toArray, List.set_cons_zero, List.set_cons_succ]
          have c0 : World.cell? _ ⟨B5, 0, none⟩ = _ := (cs_o (x := (wv.setCell ⟨A5, 0, none⟩ (.int .i64 v.1.1.pos)).setCell ⟨A5, 1, none⟩ (.int .i64 v.1.1.charge)) (c := A5) (j := 2) (v := .bool v.1.1.bolted) (.inl (Ne.symm hAB))).trans ((cs_o (.inl (Ne.symm hAB))).trans ((cs_o (.inl (Ne.symm hAB))).trans b0))
          have c1 : World.cell? _ ⟨B5, 1, none⟩ = _ := (cs_o (x := (wv.setCell ⟨A5, 0, none⟩ (.int .i64 v.1.1.pos)).setCell ⟨A5, 1, none⟩ (.int .i64 v.1.1.charge)) (c := A5) (j := 2) (v := .bool v.1.1.bolted) (.inl (Ne.symm hAB))).trans ((cs_o (.inl (Ne.symm hAB))).trans ((cs_o (.inl (Ne.symm hAB))).trans b1))
          have c2 : World.cell? _ ⟨B5, 2, none⟩ = _ := (cs_o (x := (wv.setCell ⟨A5, 0, none⟩ (.int .i64 v.1.1.pos)).setCell ⟨A5, 1, none⟩ (.int .i64 v.1.1.charge)) (c := A5) (j := 2) (v := .bool v.1.1.bolted) (.inl (Ne.symm hAB))).trans ((cs_o (.inl (Ne.symm hAB))).trans ((cs_o (.inl (Ne.symm hAB))).trans b2))
          refine wpAnyH_ready (rs := [14]) (by kernel_rfl) (by simp) ?_
          refine AllReadyH.cons (o := { dst := _, op := _, type := _, pos := _, after := _, guard := _ }) rfl (fun K hK => ?_) AllReadyH.nil
          go_simp
          refine hK.out _ _ ?_ (fun hHeld => ?_)
          · (try dsimp only); exact HS6.out
          clear hK K
          try simp only [Act.put, List.setIfInBounds_toArray, List.set_cons_zero, List.set_cons_succ]
          refine wpAnyH_take (i := 15) (oi := { dst := _, op := _, type := _, pos := _, after := _, guard := _ }) (v := ?_) rfl (by kernel_rfl) (by kernel_rfl) (by kernel_rfl) (fun _ _ _ h => h) (Or.inl ⟨by rfl, ?_⟩) HS6.out ?_
          rotate_left
          · intro wS hSw; (try dsimp only at hSw); go_simp; try (with_reducible rfl)
          try simp only [Act.put, List.setIfInBounds_toArray, List.set_cons_zero, List.set_cons_succ]
          refine wpAnyH_done (by kernel_rfl) ?_ _
          refine NoPanic.normal ?_
          clear a0 a1 a2 b0 b1 b2 c0 c1 c2 HA3 hA4 hB4 hHeld
          generalize World.setCell (World.setCell (World.setCell (World.setCell (World.setCell (World.setCell wv _ _) _ _) _ _) _ _) _ _) _ _ = U2 at *
          obtain ⟨bl0, bl1, bl2, bm0, bm1, bm2⟩ := HFin.out
          have HD2 := hid HS6.out.1
          have hUU := HS6.out.2.1
          have al0 := (hUU.cell (p := ⟨A4, 0, none⟩) hA4U).trans AK0.out
          have al1 := (hUU.cell (p := ⟨A4, 1, none⟩) hA4U).trans AK1.out
          have al2 := (hUU.cell (p := ⟨A4, 2, none⟩) hA4U).trans AK2.out
          have am0 := (hUU.cell (p := ⟨B4, 0, none⟩) hB4U).trans BK0.out
          have am1 := (hUU.cell (p := ⟨B4, 1, none⟩) hB4U).trans BK1.out
          have am2 := (hUU.cell (p := ⟨B4, 2, none⟩) hB4U).trans BK2.out
          clear hUU HFin HS6 hAB hA1 hA2 hB1 hB2 s0 s1 s2 t0 t1 t2 t3
          go_wp2_with fail
          exact ⟨⟨k + 1, by omega, by omega, by go_num, HD2⟩, by simp [intOf]; omega⟩
        · dsimp only at hV ⊢
          have V6 : vs 46 = .tuple #[.agg #[.int .i64 v.1.1.pos, .int .i64 v.1.1.charge, .bool v.1.1.bolted], .agg #[.int .i64 v.1.2.1, .int .i64 v.1.2.2.1, .int .i64 v.1.2.2.2], .int .i64 v.2] := hV (6, 46) (by simp)
          have V7 : vs 39 = .tuple #[.agg #[.int .i64 v.1.1.pos, .int .i64 v.1.1.charge, .bool v.1.1.bolted], .agg #[.int .i64 v.1.2.1, .int .i64 v.1.2.2.1, .int .i64 v.1.2.2.2], .int .i64 v.2] := hV (7, 39) (by simp)
          have V8 : vs 47 = .agg #[.int .i64 v.1.1.pos, .int .i64 v.1.1.charge, .bool v.1.1.bolted] := hV (8, 47) (by simp)
          have V9 : vs 48 = .agg #[.int .i64 v.1.2.1, .int .i64 v.1.2.2.1, .int .i64 v.1.2.2.2] := hV (9, 48) (by simp)
          obtain ⟨A5, eA, hA1, hA2, hA3, hA4⟩ : NewV U.heap.size [.int .i64 0, .int .i64 0, .bool false] (vs 11) wv := hV (11, 11) (by simp)
          obtain ⟨B5, eB, hB1, hB2, hB3, hB4⟩ : NewV U.heap.size [.int .i64 0, .int .i64 0, .int .i64 0] (vs 12) wv := hV (12, 12) (by simp)
          have hAB := box_ne hA3 hB3
          simp only [putL, V6, V7, V8, V9, eA, eB]
          try simp only [Act.put, List.setIfInBounds_toArray, List.set_cons_zero, List.set_cons_succ]
          have hSg := hS
          refine wpAnyH_take (i := 10) (oi := { dst := _, op := _, type := _, pos := _, after := _, guard := _ }) (v := ?_) rfl (by kernel_rfl) (by kernel_rfl) (by kernel_rfl) (fun _ _ _ h => h) (Or.inl ⟨by rfl, ?_⟩) (by assumption) ?_
          rotate_left
          · intro wS hSw; (try dsimp only at hSw); go_simp; try (with_reducible rfl)
          try simp only [Act.put, List.setIfInBounds_toArray, List.set_cons_zero, List.set_cons_succ]
          clear hSg
          clear hV V6 V7 V8 V9 eA eB hHeld
          have a0 := range_cell hA3 (show [_, _, _][0]? = some (Value.int .i64 0) from rfl)
          have a1 := range_cell hA3 (show [_, _, _][1]? = some (Value.int .i64 0) from rfl)
          have a2 := range_cell hA3 (show [_, _, _][2]? = some (Value.bool false) from rfl)
          have b0 := range_cell hB3 (show [_, _, _][0]? = some (Value.int .i64 0) from rfl)
          have b1 := range_cell hB3 (show [_, _, _][1]? = some (Value.int .i64 0) from rfl)
          have b2 := range_cell hB3 (show [_, _, _][2]? = some (Value.int .i64 0) from rfl)
          have HFin := hid (fin10 (U := wv) (A := A5) (B := B5) hAB ⟨_, a0⟩ ⟨_, a1⟩ ⟨_, a2⟩ ⟨_, b0⟩ ⟨_, b1⟩ ⟨_, b2⟩ (.int .i64 v.1.1.pos) (.int .i64 v.1.1.charge) (.bool v.1.1.bolted) (.int .i64 v.1.2.1) (.int .i64 v.1.2.2.1) (.int .i64 v.1.2.2.2))
          have HA3 := hid (setLd (A := A5) (j := 2) hbV hwV hA1 (.bool v.1.1.bolted) (setLd (A := A5) (j := 1) hbV hwV hA1 (.int .i64 v.1.1.charge) (setLd (A := A5) (j := 0) hbV hwV hA1 (.int .i64 v.1.1.pos) hS)))
          have HS6 := hid (setLd (A := B5) (j := 2) hbV hwV hB1 (.int .i64 v.1.2.2.2) (setLd (A := B5) (j := 1) hbV hwV hB1 (.int .i64 v.1.2.2.1) (setLd (A := B5) (j := 0) hbV hwV hB1 (.int .i64 v.1.2.1) HA3.out)))
          clear hA3 hB3 hS
          refine wpAnyH_ready (rs := [13]) (by kernel_rfl) (by simp) ?_
          refine AllReadyH.cons (o := { dst := _, op := _, type := _, pos := _, after := _, guard := _ }) rfl (fun K hK => ?_) AllReadyH.nil
          go_simp
          refine hK.out _ _ ?_ (fun hHeld => ?_)
          · (try dsimp only); exact HA3.out
          clear hK K
          try simp only [Act.put, List.setIfInBounds_toArray, List.set_cons_zero, List.set_cons_succ]
          have c0 : World.cell? _ ⟨B5, 0, none⟩ = _ := (cs_o (x := (wv.setCell ⟨A5, 0, none⟩ (.int .i64 v.1.1.pos)).setCell ⟨A5, 1, none⟩ (.int .i64 v.1.1.charge)) (c := A5) (j := 2) (v := .bool v.1.1.bolted) (.inl (Ne.symm hAB))).trans ((cs_o (.inl (Ne.symm hAB))).trans ((cs_o (.inl (Ne.symm hAB))).trans b0))
          have c1 : World.cell? _ ⟨B5, 1, none⟩ = _ := (cs_o (x := (wv.setCell ⟨A5, 0, none⟩ (.int .i64 v.1.1.pos)).setCell ⟨A5, 1, none⟩ (.int .i64 v.1.1.charge)) (c := A5) (j := 2) (v := .bool v.1.1.bolted) (.inl (Ne.symm hAB))).trans ((cs_o (.inl (Ne.symm hAB))).trans ((cs_o (.inl (Ne.symm hAB))).trans b1))
          have c2 : World.cell? _ ⟨B5, 2, none⟩ = _ := (cs_o (x := (wv.setCell ⟨A5, 0, none⟩ (.int .i64 v.1.1.pos)).setCell ⟨A5, 1, none⟩ (.int .i64 v.1.1.charge)) (c := A5) (j := 2) (v := .bool v.1.1.bolted) (.inl (Ne.symm hAB))).trans ((cs_o (.inl (Ne.symm hAB))).trans ((cs_o (.inl (Ne.symm hAB))).trans b2))
          refine wpAnyH_ready (rs := [14]) (by kernel_rfl) (by simp) ?_
          refine AllReadyH.cons (o := { dst := _, op := _, type := _, pos := _, after := _, guard := _ }) rfl (fun K hK => ?_) AllReadyH.nil
          go_simp
          refine hK.out _ _ ?_ (fun hHeld => ?_)
          · (try dsimp only); exact HS6.out
          clear hK K
          try simp only [Act.put, List.setIfInBounds_toArray, List.set_cons_zero, List.set_cons_succ]
          refine wpAnyH_take (i := 15) (oi := { dst := _, op := _, type := _, pos := _, after := _, guard := _ }) (v := ?_) rfl (by kernel_rfl) (by kernel_rfl) (by kernel_rfl) (fun _ _ _ h => h) (Or.inl ⟨by rfl, ?_⟩) HS6.out ?_
          rotate_left
          · intro wS hSw; (try dsimp only at hSw); go_simp; try (with_reducible rfl)
          try simp only [Act.put, List.setIfInBounds_toArray, List.set_cons_zero, List.set_cons_succ]
          refine wpAnyH_done (by kernel_rfl) ?_ _
          refine NoPanic.normal ?_
          clear a0 a1 a2 b0 b1 b2 c0 c1 c2 HA3 hA4 hB4 hHeld
          generalize World.setCell (World.setCell (World.setCell (World.setCell (World.setCell (World.setCell wv _ _) _ _) _ _) _ _) _ _) _ _ = U2 at *
          obtain ⟨bl0, bl1, bl2, bm0, bm1, bm2⟩ := HFin.out
          have HD2 := hid HS6.out.1
          have hUU := HS6.out.2.1
          have al0 := (hUU.cell (p := ⟨A4, 0, none⟩) hA4U).trans AK0.out
          have al1 := (hUU.cell (p := ⟨A4, 1, none⟩) hA4U).trans AK1.out
          have al2 := (hUU.cell (p := ⟨A4, 2, none⟩) hA4U).trans AK2.out
          have am0 := (hUU.cell (p := ⟨B4, 0, none⟩) hB4U).trans BK0.out
          have am1 := (hUU.cell (p := ⟨B4, 1, none⟩) hB4U).trans BK1.out
          have am2 := (hUU.cell (p := ⟨B4, 2, none⟩) hB4U).trans BK2.out
          clear hUU HFin HS6 hAB hA1 hA2 hB1 hB2 s0 s1 s2 t0 t1 t2 t3
          go_wp2_with fail
          exact ⟨⟨k + 1, by omega, by omega, by go_num, HD2⟩, by simp [intOf]; omega⟩
        · dsimp only at hV ⊢
          have V6 : vs 46 = .tuple #[.agg #[.int .i64 v.1.1.pos, .int .i64 v.1.1.charge, .bool v.1.1.bolted], .agg #[.int .i64 v.1.2.1, .int .i64 v.1.2.2.1, .int .i64 v.1.2.2.2], .int .i64 v.2] := hV (6, 46) (by simp)
          have V7 : vs 39 = .tuple #[.agg #[.int .i64 v.1.1.pos, .int .i64 v.1.1.charge, .bool v.1.1.bolted], .agg #[.int .i64 v.1.2.1, .int .i64 v.1.2.2.1, .int .i64 v.1.2.2.2], .int .i64 v.2] := hV (7, 39) (by simp)
          have V8 : vs 47 = .agg #[.int .i64 v.1.1.pos, .int .i64 v.1.1.charge, .bool v.1.1.bolted] := hV (8, 47) (by simp)
          obtain ⟨A5, eA, hA1, hA2, hA3, hA4⟩ : NewV U.heap.size [.int .i64 0, .int .i64 0, .bool false] (vs 11) wv := hV (11, 11) (by simp)
          obtain ⟨B5, eB, hB1, hB2, hB3, hB4⟩ : NewV U.heap.size [.int .i64 0, .int .i64 0, .int .i64 0] (vs 12) wv := hV (12, 12) (by simp)
          have hAB := box_ne hA3 hB3
          simp only [putL, V6, V7, V8, eA, eB]
          try simp only [Act.put, List.setIfInBounds_toArray, List.set_cons_zero, List.set_cons_succ]
          have hSg := hS
          refine wpAnyH_take (i := 9) (oi := { dst := _, op := _, type := _, pos := _, after := _, guard := _ }) (v := ?_) rfl (by kernel_rfl) (by kernel_rfl) (by kernel_rfl) (fun _ _ _ h => h) (Or.inl ⟨by rfl, ?_⟩) (by assumption) ?_
          rotate_left
          · intro wS hSw; (try dsimp only at hSw); go_simp; try (with_reducible rfl)
          try simp only [Act.put, List.setIfInBounds_toArray, List.set_cons_zero, List.set_cons_succ]
          refine wpAnyH_take (i := 10) (oi := { dst := _, op := _, type := _, pos := _, after := _, guard := _ }) (v := ?_) rfl (by kernel_rfl) (by kernel_rfl) (by kernel_rfl) (fun _ _ _ h => h) (Or.inl ⟨by rfl, ?_⟩) (by assumption) ?_
          rotate_left
          · intro wS hSw; (try dsimp only at hSw); go_simp; try (with_reducible rfl)
          try simp only [Act.put, List.setIfInBounds_toArray, List.set_cons_zero, List.set_cons_succ]
          clear hSg
          clear hV V6 V7 V8 eA eB hHeld
          have a0 := range_cell hA3 (show [_, _, _][0]? = some (Value.int .i64 0) from rfl)
          have a1 := range_cell hA3 (show [_, _, _][1]? = some (Value.int .i64 0) from rfl)
          have a2 := range_cell hA3 (show [_, _, _][2]? = some (Value.bool false) from rfl)
          have b0 := range_cell hB3 (show [_, _, _][0]? = some (Value.int .i64 0) from rfl)
          have b1 := range_cell hB3 (show [_, _, _][1]? = some (Value.int .i64 0) from rfl)
          have b2 := range_cell hB3 (show [_, _, _][2]? = some (Value.int .i64 0) from rfl)
          have HFin := hid (fin10 (U := wv) (A := A5) (B := B5) hAB ⟨_, a0⟩ ⟨_, a1⟩ ⟨_, a2⟩ ⟨_, b0⟩ ⟨_, b1⟩ ⟨_, b2⟩ (.int .i64 v.1.1.pos) (.int .i64 v.1.1.charge) (.bool v.1.1.bolted) (.int .i64 v.1.2.1) (.int .i64 v.1.2.2.1) (.int .i64 v.1.2.2.2))
          have HA3 := hid (setLd (A := A5) (j := 2) hbV hwV hA1 (.bool v.1.1.bolted) (setLd (A := A5) (j := 1) hbV hwV hA1 (.int .i64 v.1.1.charge) (setLd (A := A5) (j := 0) hbV hwV hA1 (.int .i64 v.1.1.pos) hS)))
          have HS6 := hid (setLd (A := B5) (j := 2) hbV hwV hB1 (.int .i64 v.1.2.2.2) (setLd (A := B5) (j := 1) hbV hwV hB1 (.int .i64 v.1.2.2.1) (setLd (A := B5) (j := 0) hbV hwV hB1 (.int .i64 v.1.2.1) HA3.out)))
          clear hA3 hB3 hS
          refine wpAnyH_ready (rs := [13]) (by kernel_rfl) (by simp) ?_
          refine AllReadyH.cons (o := { dst := _, op := _, type := _, pos := _, after := _, guard := _ }) rfl (fun K hK => ?_) AllReadyH.nil
          go_simp
          refine hK.out _ _ ?_ (fun hHeld => ?_)
          · (try dsimp only); exact HA3.out
          clear hK K
          try simp only [Act.put, List.setIfInBounds_toArray, List.set_cons_zero, List.set_cons_succ]
          have c0 : World.cell? _ ⟨B5, 0, none⟩ = _ := (cs_o (x := (wv.setCell ⟨A5, 0, none⟩ (.int .i64 v.1.1.pos)).setCell ⟨A5, 1, none⟩ (.int .i64 v.1.1.charge)) (c := A5) (j := 2) (v := .bool v.1.1.bolted) (.inl (Ne.symm hAB))).trans ((cs_o (.inl (Ne.symm hAB))).trans ((cs_o (.inl (Ne.symm hAB))).trans b0))
          have c1 : World.cell? _ ⟨B5, 1, none⟩ = _ := (cs_o (x := (wv.setCell ⟨A5, 0, none⟩ (.int .i64 v.1.1.pos)).setCell ⟨A5, 1, none⟩ (.int .i64 v.1.1.charge)) (c := A5) (j := 2) (v := .bool v.1.1.bolted) (.inl (Ne.symm hAB))).trans ((cs_o (.inl (Ne.symm hAB))).trans ((cs_o (.inl (Ne.symm hAB))).trans b1))
          have c2 : World.cell? _ ⟨B5, 2, none⟩ = _ := (cs_o (x := (wv.setCell ⟨A5, 0, none⟩ (.int .i64 v.1.1.pos)).setCell ⟨A5, 1, none⟩ (.int .i64 v.1.1.charge)) (c := A5) (j := 2) (v := .bool v.1.1.bolted) (.inl (Ne.symm hAB))).trans ((cs_o (.inl (Ne.symm hAB))).trans ((cs_o (.inl (Ne.symm hAB))).trans b2))
          refine wpAnyH_ready (rs := [14]) (by kernel_rfl) (by simp) ?_
          refine AllReadyH.cons (o := { dst := _, op := _, type := _, pos := _, after := _, guard := _ }) rfl (fun K hK => ?_) AllReadyH.nil
          go_simp
          refine hK.out _ _ ?_ (fun hHeld => ?_)
          · (try dsimp only); exact HS6.out
          clear hK K
          try simp only [Act.put, List.setIfInBounds_toArray, List.set_cons_zero, List.set_cons_succ]
          refine wpAnyH_take (i := 15) (oi := { dst := _, op := _, type := _, pos := _, after := _, guard := _ }) (v := ?_) rfl (by kernel_rfl) (by kernel_rfl) (by kernel_rfl) (fun _ _ _ h => h) (Or.inl ⟨by rfl, ?_⟩) HS6.out ?_
          rotate_left
          · intro wS hSw; (try dsimp only at hSw); go_simp; try (with_reducible rfl)
          try simp only [Act.put, List.setIfInBounds_toArray, List.set_cons_zero, List.set_cons_succ]
          refine wpAnyH_done (by kernel_rfl) ?_ _
          refine NoPanic.normal ?_
          clear a0 a1 a2 b0 b1 b2 c0 c1 c2 HA3 hA4 hB4 hHeld
          generalize World.setCell (World.setCell (World.setCell (World.setCell (World.setCell (World.setCell wv _ _) _ _) _ _) _ _) _ _) _ _ = U2 at *
          obtain ⟨bl0, bl1, bl2, bm0, bm1, bm2⟩ := HFin.out
          have HD2 := hid HS6.out.1
          have hUU := HS6.out.2.1
          have al0 := (hUU.cell (p := ⟨A4, 0, none⟩) hA4U).trans AK0.out
          have al1 := (hUU.cell (p := ⟨A4, 1, none⟩) hA4U).trans AK1.out
          have al2 := (hUU.cell (p := ⟨A4, 2, none⟩) hA4U).trans AK2.out
          have am0 := (hUU.cell (p := ⟨B4, 0, none⟩) hB4U).trans BK0.out
          have am1 := (hUU.cell (p := ⟨B4, 1, none⟩) hB4U).trans BK1.out
          have am2 := (hUU.cell (p := ⟨B4, 2, none⟩) hB4U).trans BK2.out
          clear hUU HFin HS6 hAB hA1 hA2 hB1 hB2 s0 s1 s2 t0 t1 t2 t3
          go_wp2_with fail
          exact ⟨⟨k + 1, by omega, by omega, by go_num, HD2⟩, by simp [intOf]; omega⟩
      · dsimp only at hV ⊢
        have V6 : vs 35 = .tuple #[.agg #[.int .i64 v.1.1.pos, .int .i64 v.1.1.charge, .bool v.1.1.bolted], .agg #[.int .i64 v.1.2.1, .int .i64 v.1.2.2.1, .int .i64 v.1.2.2.2], .int .i64 v.2] := hV (6, 35) (by simp)
        have V7 : vs 28 = .tuple #[.agg #[.int .i64 v.1.1.pos, .int .i64 v.1.1.charge, .bool v.1.1.bolted], .agg #[.int .i64 v.1.2.1, .int .i64 v.1.2.2.1, .int .i64 v.1.2.2.2], .int .i64 v.2] := hV (7, 28) (by simp)
        have V8 : vs 36 = .agg #[.int .i64 v.1.1.pos, .int .i64 v.1.1.charge, .bool v.1.1.bolted] := hV (8, 36) (by simp)
        have V10 : vs 38 = .int .i64 v.2 := hV (10, 38) (by simp)
        obtain ⟨A4, eA, hA1, hA2, hA3, hA4⟩ : NewV V.heap.size [.int .i64 0, .int .i64 0, .bool false] (vs 8) wv := hV (11, 8) (by simp)
        obtain ⟨B4, eB, hB1, hB2, hB3, hB4⟩ : NewV V.heap.size [.int .i64 0, .int .i64 0, .int .i64 0] (vs 9) wv := hV (12, 9) (by simp)
        have hAB := box_ne hA3 hB3
        simp only [putL, V6, V7, V8, V10, eA, eB]
        try simp only [Act.put, List.setIfInBounds_toArray, List.set_cons_zero, List.set_cons_succ]
        have hSg := hS
        refine wpAnyH_take (i := 9) (oi := { dst := _, op := _, type := _, pos := _, after := _, guard := _ }) (v := ?_) rfl (by kernel_rfl) (by kernel_rfl) (by kernel_rfl) (fun _ _ _ h => h) (Or.inl ⟨by rfl, ?_⟩) (by assumption) ?_
        rotate_left
        · intro wS hSw; (try dsimp only at hSw); go_simp; try (with_reducible rfl)
        try simp only [Act.put, List.setIfInBounds_toArray, List.set_cons_zero, List.set_cons_succ]
        clear hSg
        clear hV V6 V7 V8 V10 eA eB hHeld
        have a0 := range_cell hA3 (show [_, _, _][0]? = some (Value.int .i64 0) from rfl)
        have a1 := range_cell hA3 (show [_, _, _][1]? = some (Value.int .i64 0) from rfl)
        have a2 := range_cell hA3 (show [_, _, _][2]? = some (Value.bool false) from rfl)
        have b0 := range_cell hB3 (show [_, _, _][0]? = some (Value.int .i64 0) from rfl)
        have b1 := range_cell hB3 (show [_, _, _][1]? = some (Value.int .i64 0) from rfl)
        have b2 := range_cell hB3 (show [_, _, _][2]? = some (Value.int .i64 0) from rfl)
        have HFin := hid (fin10 (U := wv) (A := A4) (B := B4) hAB ⟨_, a0⟩ ⟨_, a1⟩ ⟨_, a2⟩ ⟨_, b0⟩ ⟨_, b1⟩ ⟨_, b2⟩ (.int .i64 v.1.1.pos) (.int .i64 v.1.1.charge) (.bool v.1.1.bolted) (.int .i64 v.1.2.1) (.int .i64 v.1.2.2.1) (.int .i64 v.1.2.2.2))
        have HA3 := hid (setLd (A := A4) (j := 2) hbV hwV hA1 (.bool v.1.1.bolted) (setLd (A := A4) (j := 1) hbV hwV hA1 (.int .i64 v.1.1.charge) (setLd (A := A4) (j := 0) hbV hwV hA1 (.int .i64 v.1.1.pos) hS)))
        have HS6 := hid (setLd (A := B4) (j := 2) hbV hwV hB1 (.int .i64 v.1.2.2.2) (setLd (A := B4) (j := 1) hbV hwV hB1 (.int .i64 v.1.2.2.1) (setLd (A := B4) (j := 0) hbV hwV hB1 (.int .i64 v.1.2.1) HA3.out)))
        clear hA3 hB3 hS
        refine wpAnyH_ready (rs := [13]) (by kernel_rfl) (by simp) ?_
        refine AllReadyH.cons (o := { dst := _, op := _, type := _, pos := _, after := _, guard := _ }) rfl (fun K hK => ?_) AllReadyH.nil
        go_simp
        refine hK.out _ _ ?_ (fun hHeld => ?_)
        · (try dsimp only); exact HA3.out
        clear hK K
        try simp only [Act.put, List.setIfInBounds_toArray, List.set_cons_zero, List.set_cons_succ]
        have c0 : World.cell? _ ⟨B4, 0, none⟩ = _ := (cs_o (x := (wv.setCell ⟨A4, 0, none⟩ (.int .i64 v.1.1.pos)).setCell ⟨A4, 1, none⟩ (.int .i64 v.1.1.charge)) (c := A4) (j := 2) (v := .bool v.1.1.bolted) (.inl (Ne.symm hAB))).trans ((cs_o (.inl (Ne.symm hAB))).trans ((cs_o (.inl (Ne.symm hAB))).trans b0))
        have c1 : World.cell? _ ⟨B4, 1, none⟩ = _ := (cs_o (x := (wv.setCell ⟨A4, 0, none⟩ (.int .i64 v.1.1.pos)).setCell ⟨A4, 1, none⟩ (.int .i64 v.1.1.charge)) (c := A4) (j := 2) (v := .bool v.1.1.bolted) (.inl (Ne.symm hAB))).trans ((cs_o (.inl (Ne.symm hAB))).trans ((cs_o (.inl (Ne.symm hAB))).trans b1))
        have c2 : World.cell? _ ⟨B4, 2, none⟩ = _ := (cs_o (x := (wv.setCell ⟨A4, 0, none⟩ (.int .i64 v.1.1.pos)).setCell ⟨A4, 1, none⟩ (.int .i64 v.1.1.charge)) (c := A4) (j := 2) (v := .bool v.1.1.bolted) (.inl (Ne.symm hAB))).trans ((cs_o (.inl (Ne.symm hAB))).trans ((cs_o (.inl (Ne.symm hAB))).trans b2))
        refine wpAnyH_ready (rs := [14]) (by kernel_rfl) (by simp) ?_
        refine AllReadyH.cons (o := { dst := _, op := _, type := _, pos := _, after := _, guard := _ }) rfl (fun K hK => ?_) AllReadyH.nil
        go_simp
        refine hK.out _ _ ?_ (fun hHeld => ?_)
        · (try dsimp only); exact HS6.out
        clear hK K
        try simp only [Act.put, List.setIfInBounds_toArray, List.set_cons_zero, List.set_cons_succ]
        refine wpAnyH_take (i := 15) (oi := { dst := _, op := _, type := _, pos := _, after := _, guard := _ }) (v := ?_) rfl (by kernel_rfl) (by kernel_rfl) (by kernel_rfl) (fun _ _ _ h => h) (Or.inl ⟨by rfl, ?_⟩) HS6.out ?_
        rotate_left
        · intro wS hSw; (try dsimp only at hSw); go_simp; try (with_reducible rfl)
        try simp only [Act.put, List.setIfInBounds_toArray, List.set_cons_zero, List.set_cons_succ]
        refine wpAnyH_done (by kernel_rfl) ?_ _
        refine NoPanic.normal ?_
        clear a0 a1 a2 b0 b1 b2 c0 c1 c2 HA3 hA4 hB4 hHeld
        generalize World.setCell (World.setCell (World.setCell (World.setCell (World.setCell (World.setCell wv _ _) _ _) _ _) _ _) _ _) _ _ = U at *
        obtain ⟨ak0, ak1, ak2, bk0, bk1, bk2⟩ := HFin.out
        have HD1 := hid HS6.out.1
        obtain ⟨-, hVU, s0, s1, s2, t0, t1, t2, t3⟩ := HS6.out
        have hA4U : A4 < U.heap.size := World.block_lt_of_cell? U _ ak0
        have hB4U : B4 < U.heap.size := World.block_lt_of_cell? U _ bk0
        have hbU : b < U.heap.size := Nat.lt_of_lt_of_le hbV hVU.size
        have hwU : w.heap.size + 1 < U.heap.size := Nat.lt_of_lt_of_le hwV hVU.size
        have AK0 := hid ak0; have AK1 := hid ak1; have AK2 := hid ak2; have BK0 := hid bk0; have BK1 := hid bk1; have BK2 := hid bk2
        clear hVU HFin HS6 hbV hwV hAB hA1 hA2 hB1 hB2 ak0 ak1 ak2 bk0 bk1 bk2
        have hbV := hbU
        have hwV := hwU
        clear hbU hwU
        go_upto_region 5 with fail
        refine wp_region_noPanic ?_
        refine wp_region_held_drew (S := (fun w' => DrW w g p s w' ∧ Below U.heap.size U w' ∧ w'.cell? ⟨w.heap.size + 1, 0, none⟩ = some (.int .i64 s.pos) ∧ w'.cell? ⟨w.heap.size + 1, 1, none⟩ = some (.int .i64 s.charge) ∧ w'.cell? ⟨w.heap.size + 1, 2, none⟩ = some (.bool s.bolted) ∧ w'.cell? ⟨b, o + k * 4, none⟩ = some (.int .i64 t.order) ∧ w'.cell? ⟨b, o + k * 4 + 1, none⟩ = some (.bool t.power) ∧ w'.cell? ⟨b, o + k * 4 + 2, none⟩ = some (.int .i64 t.outer) ∧ w'.cell? ⟨b, o + k * 4 + 3, none⟩ = some (.int .i64 t.inner))) (by kernel_rfl) ?_ (fun hHeld => ?_)
        · exact ⟨HD1.out.drew, (Below.refl _ _).drew, by simpa using s0, by simpa using s1, by simpa using s2, by simpa using t0, by simpa using t1, by simpa using t2, by simpa using t3⟩
        refine wpAnyH_take (i := 0) (oi := { dst := _, op := _, type := _, pos := _, after := _, guard := _ }) (v := .agg (gtL g p).toArray) rfl (by kernel_rfl) (by kernel_rfl) (by kernel_rfl) (fun _ _ _ h => h) (yieldsIf_load_mid (by rfl) 25 _ rfl w.heap.size 0 rfl (gtL g p) _ (fun _ hS => hS.1.rows) Tryz.underlying25 rfl (by kernel_rfl)) (by assumption) ?_
        try simp only [Act.put, List.setIfInBounds_toArray, List.set_cons_zero, List.set_cons_succ]
        refine wpAnyH_take (i := 1) (oi := { dst := _, op := _, type := _, pos := _, after := _, guard := _ }) (v := ?_) rfl (by kernel_rfl) (by kernel_rfl) (by kernel_rfl) (fun _ _ _ h => h) (Or.inl ⟨by rfl, ?_⟩) (by assumption) ?_
        rotate_left
        · intro wS hSw; (try dsimp only at hSw); go_simp; try (with_reducible rfl)
        try simp only [Act.put, List.setIfInBounds_toArray, List.set_cons_zero, List.set_cons_succ]
        refine wpAnyH_take (i := 2) (oi := { dst := _, op := _, type := _, pos := _, after := _, guard := _ }) (v := ?_) rfl (by kernel_rfl) (by kernel_rfl) (by kernel_rfl) (fun _ _ _ h => h) (Or.inl ⟨by rfl, ?_⟩) (by assumption) ?_
        rotate_left
        · intro wS hSw; (try dsimp only at hSw); go_simp; try (with_reducible rfl)
        try simp only [Act.put, List.setIfInBounds_toArray, List.set_cons_zero, List.set_cons_succ]
        refine wpAnyH_take (i := 3) (oi := { dst := _, op := _, type := _, pos := _, after := _, guard := _ }) (v := ?_) rfl (by kernel_rfl) (by kernel_rfl) (by kernel_rfl) (fun _ _ _ h => h) (Or.inl ⟨by rfl, ?_⟩) (by assumption) ?_
        rotate_left
        · intro wS hSw; (try dsimp only at hSw); go_simp; try (with_reducible rfl)
        try simp only [Act.put, List.setIfInBounds_toArray, List.set_cons_zero, List.set_cons_succ]
        refine wpAnyH_take (i := 4) (oi := { dst := _, op := _, type := _, pos := _, after := _, guard := _ }) (v := ?_) rfl (by kernel_rfl) (by kernel_rfl) (by kernel_rfl) (fun _ _ _ h => h) (Or.inl ⟨by rfl, ?_⟩) (by assumption) ?_
        rotate_left
        · intro wS hSw; (try dsimp only at hSw); go_simp; try (with_reducible rfl)
        try simp only [Act.put, List.setIfInBounds_toArray, List.set_cons_zero, List.set_cons_succ]
        refine wpAnyH_take (i := 5) (oi := { dst := _, op := _, type := _, pos := _, after := _, guard := _ }) (v := ?_) rfl (by kernel_rfl) (by kernel_rfl) (by kernel_rfl) (fun _ _ _ h => h) (Or.inl ⟨by rfl, ?_⟩) (by assumption) ?_
        rotate_left
        · intro wS hSw; (try dsimp only at hSw); go_simp; try (with_reducible rfl)
        try simp only [Act.put, List.setIfInBounds_toArray, List.set_cons_zero, List.set_cons_succ]
        refine wpAnyH_partXAlts (lawV U.heap.size v) [9, 10] #[true, true, true, true, true, true, true, true, true, true, true, true, true, false, false, false] 88 7 3 rfl rfl (by decide +kernel) (by decide +kernel) (by kernel_rfl) (by kernel_rfl) (by decide +kernel) (by decide +kernel) (lawV_stable _ _) (by assumption) (by decide +kernel) (fun i o ho hd hd1 d a wv hS hI hall => ?_) [(#[true, true, true, true, true, true, true, true, true, true, true, true, true, false, false, false], [(6, 46), (7, 39), (8, 47), (9, 48), (10, 49), (11, 11), (12, 12)], 0), (#[true, true, true, true, true, true, true, true, true, false, true, true, true, false, false, false], [(6, 46), (7, 39), (8, 47), (10, 49), (11, 11), (12, 12)], 1), (#[true, true, true, true, true, true, true, true, true, true, false, true, true, false, false, false], [(6, 46), (7, 39), (8, 47), (9, 48), (11, 11), (12, 12)], 1), (#[true, true, true, true, true, true, true, true, true, false, false, true, true, false, false, false], [(6, 46), (7, 39), (8, 47), (11, 11), (12, 12)], 2)] (fun b => by rcases h9 : b 9 with _ | _ <;> rcases h10 : b 10 with _ | _ <;> simp [maskD, h9, h10]) (by decide +kernel) (fun alt halt vs wv hS hV => ?_)
        · have hm := todo_mem (l := [6, 7, 8, 9, 10, 11, 12, 13, 14, 15]) (by decide +kernel) ho hd
          simp only [List.mem_cons, List.not_mem_nil, or_false] at hm
          rcases hm with rfl | rfl | rfl | rfl | rfl | rfl | rfl | rfl | rfl | rfl
          · injection ho with ho
            subst ho
            have e40 := hI.old (t := 40) (by decide +kernel) rfl
            have e41 := hI.old (t := 41) (by decide +kernel) rfl
            have e45 := hI.old (t := 45) (by decide +kernel) rfl
            refine wp_callF (F := 9) (args := #[.agg (gtL g p).toArray, .agg #[.int .i64 s.pos, .int .i64 s.charge, .bool s.bolted], .agg #[.int .i64 t.order, .bool t.power, .int .i64 t.outer, .int .i64 t.inner]]) (by simp [execOp, go_sem, e40, e41, e45]) ?_
            refine (HRst.out _ hS.1.below).mono ?_
            rintro e w' ⟨rfl, hb⟩
            exact ⟨_, rfl, _, rfl, rfl, keepLd hbV hb hS, hb⟩
          · injection ho with ho
            subst ho
            obtain ⟨v6, e6, V6⟩ := hI.new (i := 6) (t := 46) rfl (by decide +kernel) (hall ⟨6, .data⟩ (by simp) rfl) rfl
            obtain rfl : v6 = .tuple #[.agg #[.int .i64 v.1.1.pos, .int .i64 v.1.1.charge, .bool v.1.1.bolted], .agg #[.int .i64 v.1.2.1, .int .i64 v.1.2.2.1, .int .i64 v.1.2.2.2], .int .i64 v.2] := V6
            refine wp_valF (v := .tuple #[.agg #[.int .i64 v.1.1.pos, .int .i64 v.1.1.charge, .bool v.1.1.bolted], .agg #[.int .i64 v.1.2.1, .int .i64 v.1.2.2.1, .int .i64 v.1.2.2.2], .int .i64 v.2]) (w' := wv) (by simp [execOp, go_sem, e6]) ?_
            exact ⟨_, rfl, rfl, hS, Below.refl _ _⟩
          · injection ho with ho
            subst ho
            obtain ⟨v7, e7, V7⟩ := hI.new (i := 7) (t := 39) rfl (by decide +kernel) (hall ⟨7, .data⟩ (by simp) rfl) rfl
            obtain rfl : v7 = .tuple #[.agg #[.int .i64 v.1.1.pos, .int .i64 v.1.1.charge, .bool v.1.1.bolted], .agg #[.int .i64 v.1.2.1, .int .i64 v.1.2.2.1, .int .i64 v.1.2.2.2], .int .i64 v.2] := V7
            refine wp_valF (v := .agg #[.int .i64 v.1.1.pos, .int .i64 v.1.1.charge, .bool v.1.1.bolted]) (w' := wv) (by simp [execOp, go_sem, e7]) ?_
            exact ⟨_, rfl, rfl, hS, Below.refl _ _⟩
          · injection ho with ho
            subst ho
            obtain ⟨v7, e7, V7⟩ := hI.new (i := 7) (t := 39) rfl (by decide +kernel) (hall ⟨7, .data⟩ (by simp) rfl) rfl
            obtain rfl : v7 = .tuple #[.agg #[.int .i64 v.1.1.pos, .int .i64 v.1.1.charge, .bool v.1.1.bolted], .agg #[.int .i64 v.1.2.1, .int .i64 v.1.2.2.1, .int .i64 v.1.2.2.2], .int .i64 v.2] := V7
            refine wp_valF (v := .agg #[.int .i64 v.1.2.1, .int .i64 v.1.2.2.1, .int .i64 v.1.2.2.2]) (w' := wv) (by simp [execOp, go_sem, e7]) ?_
            exact ⟨_, rfl, rfl, hS, Below.refl _ _⟩
          · injection ho with ho
            subst ho
            obtain ⟨v7, e7, V7⟩ := hI.new (i := 7) (t := 39) rfl (by decide +kernel) (hall ⟨7, .data⟩ (by simp) rfl) rfl
            obtain rfl : v7 = .tuple #[.agg #[.int .i64 v.1.1.pos, .int .i64 v.1.1.charge, .bool v.1.1.bolted], .agg #[.int .i64 v.1.2.1, .int .i64 v.1.2.2.1, .int .i64 v.1.2.2.2], .int .i64 v.2] := V7
            refine wp_valF (v := .int .i64 v.2) (w' := wv) (by simp [execOp, go_sem, e7]) ?_
            exact ⟨_, rfl, rfl, hS, Below.refl _ _⟩
          · injection ho with ho
            subst ho
            refine wp_valF (v := .pointer (some ⟨wv.heap.size, 0, none⟩)) (w' := wv.alloc (.cells #[.int .i64 0, .int .i64 0, .bool false] 27)) (by simp [execOp, go_sem]) ?_
            have hb : Below wv.heap.size wv (wv.alloc (.cells #[.int .i64 0, .int .i64 0, .bool false] 27)) := (Below.refl _ _).alloc (Nat.le_refl _) _
            exact ⟨_, rfl, NewV.fresh _ _ _ _ hS.2.1.size, keepLd hbV hb hS, hb⟩
          · injection ho with ho
            subst ho
            refine wp_valF (v := .pointer (some ⟨wv.heap.size, 0, none⟩)) (w' := wv.alloc (.cells #[.int .i64 0, .int .i64 0, .int .i64 0] 31)) (by simp [execOp, go_sem]) ?_
            have hb : Below wv.heap.size wv (wv.alloc (.cells #[.int .i64 0, .int .i64 0, .int .i64 0] 31)) := (Below.refl _ _).alloc (Nat.le_refl _) _
            exact ⟨_, rfl, NewV.fresh _ _ _ _ hS.2.1.size, keepLd hbV hb hS, hb⟩
          · exact absurd hd1 (by decide)
          · exact absurd hd1 (by decide)
          · exact absurd hd1 (by decide)
        simp only [List.mem_cons, List.not_mem_nil, or_false] at halt
        rcases halt with rfl | rfl | rfl | rfl
        · dsimp only at hV ⊢
          have V6 : vs 46 = .tuple #[.agg #[.int .i64 v.1.1.pos, .int .i64 v.1.1.charge, .bool v.1.1.bolted], .agg #[.int .i64 v.1.2.1, .int .i64 v.1.2.2.1, .int .i64 v.1.2.2.2], .int .i64 v.2] := hV (6, 46) (by simp)
          have V7 : vs 39 = .tuple #[.agg #[.int .i64 v.1.1.pos, .int .i64 v.1.1.charge, .bool v.1.1.bolted], .agg #[.int .i64 v.1.2.1, .int .i64 v.1.2.2.1, .int .i64 v.1.2.2.2], .int .i64 v.2] := hV (7, 39) (by simp)
          have V8 : vs 47 = .agg #[.int .i64 v.1.1.pos, .int .i64 v.1.1.charge, .bool v.1.1.bolted] := hV (8, 47) (by simp)
          have V9 : vs 48 = .agg #[.int .i64 v.1.2.1, .int .i64 v.1.2.2.1, .int .i64 v.1.2.2.2] := hV (9, 48) (by simp)
          have V10 : vs 49 = .int .i64 v.2 := hV (10, 49) (by simp)
          obtain ⟨A5, eA, hA1, hA2, hA3, hA4⟩ : NewV U.heap.size [.int .i64 0, .int .i64 0, .bool false] (vs 11) wv := hV (11, 11) (by simp)
          obtain ⟨B5, eB, hB1, hB2, hB3, hB4⟩ : NewV U.heap.size [.int .i64 0, .int .i64 0, .int .i64 0] (vs 12) wv := hV (12, 12) (by simp)
          have hAB := box_ne hA3 hB3
          simp only [putL, V6, V7, V8, V9, V10, eA, eB]
          try simp only [Act.put, List.setIfInBounds_toArray, List.set_cons_zero, List.set_cons_succ]
          have hSg := hS
          clear hSg
          clear hV V6 V7 V8 V9 V10 eA eB hHeld
          have a0 := range_cell hA3 (show [_, _, _][0]? = some (Value.int .i64 0) from rfl)
          have a1 := range_cell hA3 (show [_, _, _][1]? = some (Value.int .i64 0) from rfl)
          have a2 := range_cell hA3 (show [_, _, _][2]? = some (Value.bool false) from rfl)
          have b0 := range_cell hB3 (show [_, _, _][0]? = some (Value.int .i64 0) from rfl)
          have b1 := range_cell hB3 (show [_, _, _][1]? = some (Value.int .i64 0) from rfl)
          have b2 := range_cell hB3 (show [_, _, _][2]? = some (Value.int .i64 0) from rfl)
          have HFin := hid (fin10 (U := wv) (A := A5) (B := B5) hAB ⟨_, a0⟩ ⟨_, a1⟩ ⟨_, a2⟩ ⟨_, b0⟩ ⟨_, b1⟩ ⟨_, b2⟩ (.int .i64 v.1.1.pos) (.int .i64 v.1.1.charge) (.bool v.1.1.bolted) (.int .i64 v.1.2.1) (.int .i64 v.1.2.2.1) (.int .i64 v.1.2.2.2))
          have HA3 := hid (setLd (A := A5) (j := 2) hbV hwV hA1 (.bool v.1.1.bolted) (setLd (A := A5) (j := 1) hbV hwV hA1 (.int .i64 v.1.1.charge) (setLd (A := A5) (j := 0) hbV hwV hA1 (.int .i64 v.1.1.pos) hS)))
          have HS6 := hid (setLd (A := B5) (j := 2) hbV hwV hB1 (.int .i64 v.1.2.2.2) (setLd (A := B5) (j := 1) hbV hwV hB1 (.int .i64 v.1.2.2.1) (setLd (A := B5) (j := 0) hbV hwV hB1 (.int .i64 v.1.2.1) HA3.out)))
          clear hA3 hB3 hS
          refine wpAnyH_ready (rs := [13]) (by kernel_rfl) (by simp) ?_
          refine AllReadyH.cons (o := { dst := _, op := _, type := _, pos := _, after := _, guard := _ }) rfl (fun K hK => ?_) AllReadyH.nil
          go_simp
          refine hK.out _ _ ?_ (fun hHeld => ?_)
          · (try dsimp only); exact HA3.out
          clear hK K
          try simp only [Act.put, List.setIfInBounds_toArray, List.set_cons_zero, List.set_cons_succ]
          have c0 : World.cell? _ ⟨B5, 0, none⟩ = _ := (cs_o (x := (wv.setCell ⟨A5, 0, none⟩ (.int .i64 v.1.1.pos)).setCell ⟨A5, 1, none⟩ (.int .i64 v.1.1.charge)) (c := A5) (j := 2) (v := .bool v.1.1.bolted) (.inl (Ne.symm hAB))).trans ((cs_o (.inl (Ne.symm hAB))).trans ((cs_o (.inl (Ne.symm hAB))).trans b0))
          have c1 : World.cell? _ ⟨B5, 1, none⟩ = _ := (cs_o (x := (wv.setCell ⟨A5, 0, none⟩ (.int .i64 v.1.1.pos)).setCell ⟨A5, 1, none⟩ (.int .i64 v.1.1.charge)) (c := A5) (j := 2) (v := .bool v.1.1.bolted) (.inl (Ne.symm hAB))).trans ((cs_o (.inl (Ne.symm hAB))).trans ((cs_o (.inl (Ne.symm hAB))).trans b1))
          have c2 : World.cell? _ ⟨B5, 2, none⟩ = _ := (cs_o (x := (wv.setCell ⟨A5, 0, none⟩ (.int .i64 v.1.1.pos)).setCell ⟨A5, 1, none⟩ (.int .i64 v.1.1.charge)) (c := A5) (j := 2) (v := .bool v.1.1.bolted) (.inl (Ne.symm hAB))).trans ((cs_o (.inl (Ne.symm hAB))).trans ((cs_o (.inl (Ne.symm hAB))).trans b2))
          refine wpAnyH_ready (rs := [14]) (by kernel_rfl) (by simp) ?_
          refine AllReadyH.cons (o := { dst := _, op := _, type := _, pos := _, after := _, guard := _ }) rfl (fun K hK => ?_) AllReadyH.nil
          go_simp
          refine hK.out _ _ ?_ (fun hHeld => ?_)
          · (try dsimp only); exact HS6.out
          clear hK K
          try simp only [Act.put, List.setIfInBounds_toArray, List.set_cons_zero, List.set_cons_succ]
          refine wpAnyH_take (i := 15) (oi := { dst := _, op := _, type := _, pos := _, after := _, guard := _ }) (v := ?_) rfl (by kernel_rfl) (by kernel_rfl) (by kernel_rfl) (fun _ _ _ h => h) (Or.inl ⟨by rfl, ?_⟩) HS6.out ?_
          rotate_left
          · intro wS hSw; (try dsimp only at hSw); go_simp; try (with_reducible rfl)
          try simp only [Act.put, List.setIfInBounds_toArray, List.set_cons_zero, List.set_cons_succ]
          refine wpAnyH_done (by kernel_rfl) ?_ _
          refine NoPanic.normal ?_
          clear a0 a1 a2 b0 b1 b2 c0 c1 c2 HA3 hA4 hB4 hHeld
          generalize World.setCell (World.setCell (World.setCell (World.setCell (World.setCell (World.setCell wv _ _) _ _) _ _) _ _) _ _) _ _ = U2 at *
          obtain ⟨bl0, bl1, bl2, bm0, bm1, bm2⟩ := HFin.out
          have HD2 := hid HS6.out.1
          have hUU := HS6.out.2.1
          have al0 := (hUU.cell (p := ⟨A4, 0, none⟩) hA4U).trans AK0.out
          have al1 := (hUU.cell (p := ⟨A4, 1, none⟩) hA4U).trans AK1.out
          have al2 := (hUU.cell (p := ⟨A4, 2, none⟩) hA4U).trans AK2.out
          have am0 := (hUU.cell (p := ⟨B4, 0, none⟩) hB4U).trans BK0.out
          have am1 := (hUU.cell (p := ⟨B4, 1, none⟩) hB4U).trans BK1.out
          have am2 := (hUU.cell (p := ⟨B4, 2, none⟩) hB4U).trans BK2.out
          clear hUU HFin HS6 hAB hA1 hA2 hB1 hB2 s0 s1 s2 t0 t1 t2 t3
          go_wp2_with fail
          exact ⟨⟨k + 1, by omega, by omega, by go_num, HD2⟩, by simp [intOf]; omega⟩
        · dsimp only at hV ⊢
          have V6 : vs 46 = .tuple #[.agg #[.int .i64 v.1.1.pos, .int .i64 v.1.1.charge, .bool v.1.1.bolted], .agg #[.int .i64 v.1.2.1, .int .i64 v.1.2.2.1, .int .i64 v.1.2.2.2], .int .i64 v.2] := hV (6, 46) (by simp)
          have V7 : vs 39 = .tuple #[.agg #[.int .i64 v.1.1.pos, .int .i64 v.1.1.charge, .bool v.1.1.bolted], .agg #[.int .i64 v.1.2.1, .int .i64 v.1.2.2.1, .int .i64 v.1.2.2.2], .int .i64 v.2] := hV (7, 39) (by simp)
          have V8 : vs 47 = .agg #[.int .i64 v.1.1.pos, .int .i64 v.1.1.charge, .bool v.1.1.bolted] := hV (8, 47) (by simp)
          have V10 : vs 49 = .int .i64 v.2 := hV (10, 49) (by simp)
          obtain ⟨A5, eA, hA1, hA2, hA3, hA4⟩ : NewV U.heap.size [.int .i64 0, .int .i64 0, .bool false] (vs 11) wv := hV (11, 11) (by simp)
          obtain ⟨B5, eB, hB1, hB2, hB3, hB4⟩ : NewV U.heap.size [.int .i64 0, .int .i64 0, .int .i64 0] (vs 12) wv := hV (12, 12) (by simp)
          have hAB := box_ne hA3 hB3
          simp only [putL, V6, V7, V8, V10, eA, eB]
          try simp only [Act.put, List.setIfInBounds_toArray, List.set_cons_zero, List.set_cons_succ]
          have hSg := hS
          refine wpAnyH_take (i := 9) (oi := { dst := _, op := _, type := _, pos := _, after := _, guard := _ }) (v := ?_) rfl (by kernel_rfl) (by kernel_rfl) (by kernel_rfl) (fun _ _ _ h => h) (Or.inl ⟨by rfl, ?_⟩) (by assumption) ?_
          rotate_left
          · intro wS hSw; (try dsimp only at hSw); go_simp; try (with_reducible rfl)
          try simp only [Act.put, List.setIfInBounds_toArray, List.set_cons_zero, List.set_cons_succ]
          clear hSg
          clear hV V6 V7 V8 V10 eA eB hHeld
          have a0 := range_cell hA3 (show [_, _, _][0]? = some (Value.int .i64 0) from rfl)
          have a1 := range_cell hA3 (show [_, _, _][1]? = some (Value.int .i64 0) from rfl)
          have a2 := range_cell hA3 (show [_, _, _][2]? = some (Value.bool false) from rfl)
          have b0 := range_cell hB3 (show [_, _, _][0]? = some (Value.int .i64 0) from rfl)
          have b1 := range_cell hB3 (show [_, _, _][1]? = some (Value.int .i64 0) from rfl)
          have b2 := range_cell hB3 (show [_, _, _][2]? = some (Value.int .i64 0) from rfl)
          have HFin := hid (fin10 (U := wv) (A := A5) (B := B5) hAB ⟨_, a0⟩ ⟨_, a1⟩ ⟨_, a2⟩ ⟨_, b0⟩ ⟨_, b1⟩ ⟨_, b2⟩ (.int .i64 v.1.1.pos) (.int .i64 v.1.1.charge) (.bool v.1.1.bolted) (.int .i64 v.1.2.1) (.int .i64 v.1.2.2.1) (.int .i64 v.1.2.2.2))
          have HA3 := hid (setLd (A := A5) (j := 2) hbV hwV hA1 (.bool v.1.1.bolted) (setLd (A := A5) (j := 1) hbV hwV hA1 (.int .i64 v.1.1.charge) (setLd (A := A5) (j := 0) hbV hwV hA1 (.int .i64 v.1.1.pos) hS)))
          have HS6 := hid (setLd (A := B5) (j := 2) hbV hwV hB1 (.int .i64 v.1.2.2.2) (setLd (A := B5) (j := 1) hbV hwV hB1 (.int .i64 v.1.2.2.1) (setLd (A := B5) (j := 0) hbV hwV hB1 (.int .i64 v.1.2.1) HA3.out)))
          clear hA3 hB3 hS
          refine wpAnyH_ready (rs := [13]) (by kernel_rfl) (by simp) ?_
          refine AllReadyH.cons (o := { dst := _, op := _, type := _, pos := _, after := _, guard := _ }) rfl (fun K hK => ?_) AllReadyH.nil
          go_simp
          refine hK.out _ _ ?_ (fun hHeld => ?_)
          · (try dsimp only); exact HA3.out
          clear hK K
          try simp only [Act.put, List.setIfInBounds_toArray, List.set_cons_zero, List.set_cons_succ]
          have c0 : World.cell? _ ⟨B5, 0, none⟩ = _ := (cs_o (x := (wv.setCell ⟨A5, 0, none⟩ (.int .i64 v.1.1.pos)).setCell ⟨A5, 1, none⟩ (.int .i64 v.1.1.charge)) (c := A5) (j := 2) (v := .bool v.1.1.bolted) (.inl (Ne.symm hAB))).trans ((cs_o (.inl (Ne.symm hAB))).trans ((cs_o (.inl (Ne.symm hAB))).trans b0))
          have c1 : World.cell? _ ⟨B5, 1, none⟩ = _ := (cs_o (x := (wv.setCell ⟨A5, 0, none⟩ (.int .i64 v.1.1.pos)).setCell ⟨A5, 1, none⟩ (.int .i64 v.1.1.charge)) (c := A5) (j := 2) (v := .bool v.1.1.bolted) (.inl (Ne.symm hAB))).trans ((cs_o (.inl (Ne.symm hAB))).trans ((cs_o (.inl (Ne.symm hAB))).trans b1))
          have c2 : World.cell? _ ⟨B5, 2, none⟩ = _ := (cs_o (x := (wv.setCell ⟨A5, 0, none⟩ (.int .i64 v.1.1.pos)).setCell ⟨A5, 1, none⟩ (.int .i64 v.1.1.charge)) (c := A5) (j := 2) (v := .bool v.1.1.bolted) (.inl (Ne.symm hAB))).trans ((cs_o (.inl (Ne.symm hAB))).trans ((cs_o (.inl (Ne.symm hAB))).trans b2))
          refine wpAnyH_ready (rs := [14]) (by kernel_rfl) (by simp) ?_
          refine AllReadyH.cons (o := { dst := _, op := _, type := _, pos := _, after := _, guard := _ }) rfl (fun K hK => ?_) AllReadyH.nil
          go_simp
          refine hK.out _ _ ?_ (fun hHeld => ?_)
          · (try dsimp only); exact HS6.out
          clear hK K
          try simp only [Act.put, List.setIfInBounds_toArray, List.set_cons_zero, List.set_cons_succ]
          refine wpAnyH_take (i := 15) (oi := { dst := _, op := _, type := _, pos := _, after := _, guard := _ }) (v := ?_) rfl (by kernel_rfl) (by kernel_rfl) (by kernel_rfl) (fun _ _ _ h => h) (Or.inl ⟨by rfl, ?_⟩) HS6.out ?_
          rotate_left
          · intro wS hSw; (try dsimp only at hSw); go_simp; try (with_reducible rfl)
          try simp only [Act.put, List.setIfInBounds_toArray, List.set_cons_zero, List.set_cons_succ]
          refine wpAnyH_done (by kernel_rfl) ?_ _
          refine NoPanic.normal ?_
          clear a0 a1 a2 b0 b1 b2 c0 c1 c2 HA3 hA4 hB4 hHeld
          generalize World.setCell (World.setCell (World.setCell (World.setCell (World.setCell (World.setCell wv _ _) _ _) _ _) _ _) _ _) _ _ = U2 at *
          obtain ⟨bl0, bl1, bl2, bm0, bm1, bm2⟩ := HFin.out
          have HD2 := hid HS6.out.1
          have hUU := HS6.out.2.1
          have al0 := (hUU.cell (p := ⟨A4, 0, none⟩) hA4U).trans AK0.out
          have al1 := (hUU.cell (p := ⟨A4, 1, none⟩) hA4U).trans AK1.out
          have al2 := (hUU.cell (p := ⟨A4, 2, none⟩) hA4U).trans AK2.out
          have am0 := (hUU.cell (p := ⟨B4, 0, none⟩) hB4U).trans BK0.out
          have am1 := (hUU.cell (p := ⟨B4, 1, none⟩) hB4U).trans BK1.out
          have am2 := (hUU.cell (p := ⟨B4, 2, none⟩) hB4U).trans BK2.out
          clear hUU HFin HS6 hAB hA1 hA2 hB1 hB2 s0 s1 s2 t0 t1 t2 t3
          go_wp2_with fail
          exact ⟨⟨k + 1, by omega, by omega, by go_num, HD2⟩, by simp [intOf]; omega⟩
        · dsimp only at hV ⊢
          have V6 : vs 46 = .tuple #[.agg #[.int .i64 v.1.1.pos, .int .i64 v.1.1.charge, .bool v.1.1.bolted], .agg #[.int .i64 v.1.2.1, .int .i64 v.1.2.2.1, .int .i64 v.1.2.2.2], .int .i64 v.2] := hV (6, 46) (by simp)
          have V7 : vs 39 = .tuple #[.agg #[.int .i64 v.1.1.pos, .int .i64 v.1.1.charge, .bool v.1.1.bolted], .agg #[.int .i64 v.1.2.1, .int .i64 v.1.2.2.1, .int .i64 v.1.2.2.2], .int .i64 v.2] := hV (7, 39) (by simp)
          have V8 : vs 47 = .agg #[.int .i64 v.1.1.pos, .int .i64 v.1.1.charge, .bool v.1.1.bolted] := hV (8, 47) (by simp)
          have V9 : vs 48 = .agg #[.int .i64 v.1.2.1, .int .i64 v.1.2.2.1, .int .i64 v.1.2.2.2] := hV (9, 48) (by simp)
          obtain ⟨A5, eA, hA1, hA2, hA3, hA4⟩ : NewV U.heap.size [.int .i64 0, .int .i64 0, .bool false] (vs 11) wv := hV (11, 11) (by simp)
          obtain ⟨B5, eB, hB1, hB2, hB3, hB4⟩ : NewV U.heap.size [.int .i64 0, .int .i64 0, .int .i64 0] (vs 12) wv := hV (12, 12) (by simp)
          have hAB := box_ne hA3 hB3
          simp only [putL, V6, V7, V8, V9, eA, eB]
          try simp only [Act.put, List.setIfInBounds_toArray, List.set_cons_zero, List.set_cons_succ]
          have hSg := hS
          refine wpAnyH_take (i := 10) (oi := { dst := _, op := _, type := _, pos := _, after := _, guard := _ }) (v := ?_) rfl (by kernel_rfl) (by kernel_rfl) (by kernel_rfl) (fun _ _ _ h => h) (Or.inl ⟨by rfl, ?_⟩) (by assumption) ?_
          rotate_left
          · intro wS hSw; (try dsimp only at hSw); go_simp; try (with_reducible rfl)
          try simp only [Act.put, List.setIfInBounds_toArray, List.set_cons_zero, List.set_cons_succ]
          clear hSg
          clear hV V6 V7 V8 V9 eA eB hHeld
          have a0 := range_cell hA3 (show [_, _, _][0]? = some (Value.int .i64 0) from rfl)
          have a1 := range_cell hA3 (show [_, _, _][1]? = some (Value.int .i64 0) from rfl)
          have a2 := range_cell hA3 (show [_, _, _][2]? = some (Value.bool false) from rfl)
          have b0 := range_cell hB3 (show [_, _, _][0]? = some (Value.int .i64 0) from rfl)
          have b1 := range_cell hB3 (show [_, _, _][1]? = some (Value.int .i64 0) from rfl)
          have b2 := range_cell hB3 (show [_, _, _][2]? = some (Value.int .i64 0) from rfl)
          have HFin := hid (fin10 (U := wv) (A := A5) (B := B5) hAB ⟨_, a0⟩ ⟨_, a1⟩ ⟨_, a2⟩ ⟨_, b0⟩ ⟨_, b1⟩ ⟨_, b2⟩ (.int .i64 v.1.1.pos) (.int .i64 v.1.1.charge) (.bool v.1.1.bolted) (.int .i64 v.1.2.1) (.int .i64 v.1.2.2.1) (.int .i64 v.1.2.2.2))
          have HA3 := hid (setLd (A := A5) (j := 2) hbV hwV hA1 (.bool v.1.1.bolted) (setLd (A := A5) (j := 1) hbV hwV hA1 (.int .i64 v.1.1.charge) (setLd (A := A5) (j := 0) hbV hwV hA1 (.int .i64 v.1.1.pos) hS)))
          have HS6 := hid (setLd (A := B5) (j := 2) hbV hwV hB1 (.int .i64 v.1.2.2.2) (setLd (A := B5) (j := 1) hbV hwV hB1 (.int .i64 v.1.2.2.1) (setLd (A := B5) (j := 0) hbV hwV hB1 (.int .i64 v.1.2.1) HA3.out)))
          clear hA3 hB3 hS
          refine wpAnyH_ready (rs := [13]) (by kernel_rfl) (by simp) ?_
          refine AllReadyH.cons (o := { dst := _, op := _, type := _, pos := _, after := _, guard := _ }) rfl (fun K hK => ?_) AllReadyH.nil
          go_simp
          refine hK.out _ _ ?_ (fun hHeld => ?_)
          · (try dsimp only); exact HA3.out
          clear hK K
          try simp only [Act.put, List.setIfInBounds_toArray, List.set_cons_zero, List.set_cons_succ]
          have c0 : World.cell? _ ⟨B5, 0, none⟩ = _ := (cs_o (x := (wv.setCell ⟨A5, 0, none⟩ (.int .i64 v.1.1.pos)).setCell ⟨A5, 1, none⟩ (.int .i64 v.1.1.charge)) (c := A5) (j := 2) (v := .bool v.1.1.bolted) (.inl (Ne.symm hAB))).trans ((cs_o (.inl (Ne.symm hAB))).trans ((cs_o (.inl (Ne.symm hAB))).trans b0))
          have c1 : World.cell? _ ⟨B5, 1, none⟩ = _ := (cs_o (x := (wv.setCell ⟨A5, 0, none⟩ (.int .i64 v.1.1.pos)).setCell ⟨A5, 1, none⟩ (.int .i64 v.1.1.charge)) (c := A5) (j := 2) (v := .bool v.1.1.bolted) (.inl (Ne.symm hAB))).trans ((cs_o (.inl (Ne.symm hAB))).trans ((cs_o (.inl (Ne.symm hAB))).trans b1))
          have c2 : World.cell? _ ⟨B5, 2, none⟩ = _ := (cs_o (x := (wv.setCell ⟨A5, 0, none⟩ (.int .i64 v.1.1.pos)).setCell ⟨A5, 1, none⟩ (.int .i64 v.1.1.charge)) (c := A5) (j := 2) (v := .bool v.1.1.bolted) (.inl (Ne.symm hAB))).trans ((cs_o (.inl (Ne.symm hAB))).trans ((cs_o (.inl (Ne.symm hAB))).trans b2))
          refine wpAnyH_ready (rs := [14]) (by kernel_rfl) (by simp) ?_
          refine AllReadyH.cons (o := { dst := _, op := _, type := _, pos := _, after := _, guard := _ }) rfl (fun K hK => ?_) AllReadyH.nil
          go_simp
          refine hK.out _ _ ?_ (fun hHeld => ?_)
          · (try dsimp only); exact HS6.out
          clear hK K
          try simp only [Act.put, List.setIfInBounds_toArray, List.set_cons_zero, List.set_cons_succ]
          refine wpAnyH_take (i := 15) (oi := { dst := _, op := _, type := _, pos := _, after := _, guard := _ }) (v := ?_) rfl (by kernel_rfl) (by kernel_rfl) (by kernel_rfl) (fun _ _ _ h => h) (Or.inl ⟨by rfl, ?_⟩) HS6.out ?_
          rotate_left
          · intro wS hSw; (try dsimp only at hSw); go_simp; try (with_reducible rfl)
          try simp only [Act.put, List.setIfInBounds_toArray, List.set_cons_zero, List.set_cons_succ]
          refine wpAnyH_done (by kernel_rfl) ?_ _
          refine NoPanic.normal ?_
          clear a0 a1 a2 b0 b1 b2 c0 c1 c2 HA3 hA4 hB4 hHeld
          generalize World.setCell (World.setCell (World.setCell (World.setCell (World.setCell (World.setCell wv _ _) _ _) _ _) _ _) _ _) _ _ = U2 at *
          obtain ⟨bl0, bl1, bl2, bm0, bm1, bm2⟩ := HFin.out
          have HD2 := hid HS6.out.1
          have hUU := HS6.out.2.1
          have al0 := (hUU.cell (p := ⟨A4, 0, none⟩) hA4U).trans AK0.out
          have al1 := (hUU.cell (p := ⟨A4, 1, none⟩) hA4U).trans AK1.out
          have al2 := (hUU.cell (p := ⟨A4, 2, none⟩) hA4U).trans AK2.out
          have am0 := (hUU.cell (p := ⟨B4, 0, none⟩) hB4U).trans BK0.out
          have am1 := (hUU.cell (p := ⟨B4, 1, none⟩) hB4U).trans BK1.out
          have am2 := (hUU.cell (p := ⟨B4, 2, none⟩) hB4U).trans BK2.out
          clear hUU HFin HS6 hAB hA1 hA2 hB1 hB2 s0 s1 s2 t0 t1 t2 t3
          go_wp2_with fail
          exact ⟨⟨k + 1, by omega, by omega, by go_num, HD2⟩, by simp [intOf]; omega⟩
        · dsimp only at hV ⊢
          have V6 : vs 46 = .tuple #[.agg #[.int .i64 v.1.1.pos, .int .i64 v.1.1.charge, .bool v.1.1.bolted], .agg #[.int .i64 v.1.2.1, .int .i64 v.1.2.2.1, .int .i64 v.1.2.2.2], .int .i64 v.2] := hV (6, 46) (by simp)
          have V7 : vs 39 = .tuple #[.agg #[.int .i64 v.1.1.pos, .int .i64 v.1.1.charge, .bool v.1.1.bolted], .agg #[.int .i64 v.1.2.1, .int .i64 v.1.2.2.1, .int .i64 v.1.2.2.2], .int .i64 v.2] := hV (7, 39) (by simp)
          have V8 : vs 47 = .agg #[.int .i64 v.1.1.pos, .int .i64 v.1.1.charge, .bool v.1.1.bolted] := hV (8, 47) (by simp)
          obtain ⟨A5, eA, hA1, hA2, hA3, hA4⟩ : NewV U.heap.size [.int .i64 0, .int .i64 0, .bool false] (vs 11) wv := hV (11, 11) (by simp)
          obtain ⟨B5, eB, hB1, hB2, hB3, hB4⟩ : NewV U.heap.size [.int .i64 0, .int .i64 0, .int .i64 0] (vs 12) wv := hV (12, 12) (by simp)
          have hAB := box_ne hA3 hB3
          simp only [putL, V6, V7, V8, eA, eB]
          try simp only [Act.put, List.setIfInBounds_toArray, List.set_cons_zero, List.set_cons_succ]
          have hSg := hS
          refine wpAnyH_take (i := 9) (oi := { dst := _, op := _, type := _, pos := _, after := _, guard := _ }) (v := ?_) rfl (by kernel_rfl) (by kernel_rfl) (by kernel_rfl) (fun _ _ _ h => h) (Or.inl ⟨by rfl, ?_⟩) (by assumption) ?_
          rotate_left
          · intro wS hSw; (try dsimp only at hSw); go_simp; try (with_reducible rfl)
          try simp only [Act.put, List.setIfInBounds_toArray, List.set_cons_zero, List.set_cons_succ]
          refine wpAnyH_take (i := 10) (oi := { dst := _, op := _, type := _, pos := _, after := _, guard := _ }) (v := ?_) rfl (by kernel_rfl) (by kernel_rfl) (by kernel_rfl) (fun _ _ _ h => h) (Or.inl ⟨by rfl, ?_⟩) (by assumption) ?_
          rotate_left
          · intro wS hSw; (try dsimp only at hSw); go_simp; try (with_reducible rfl)
          try simp only [Act.put, List.setIfInBounds_toArray, List.set_cons_zero, List.set_cons_succ]
          clear hSg
          clear hV V6 V7 V8 eA eB hHeld
          have a0 := range_cell hA3 (show [_, _, _][0]? = some (Value.int .i64 0) from rfl)
          have a1 := range_cell hA3 (show [_, _, _][1]? = some (Value.int .i64 0) from rfl)
          have a2 := range_cell hA3 (show [_, _, _][2]? = some (Value.bool false) from rfl)
          have b0 := range_cell hB3 (show [_, _, _][0]? = some (Value.int .i64 0) from rfl)
          have b1 := range_cell hB3 (show [_, _, _][1]? = some (Value.int .i64 0) from rfl)
          have b2 := range_cell hB3 (show [_, _, _][2]? = some (Value.int .i64 0) from rfl)
          have HFin := hid (fin10 (U := wv) (A := A5) (B := B5) hAB ⟨_, a0⟩ ⟨_, a1⟩ ⟨_, a2⟩ ⟨_, b0⟩ ⟨_, b1⟩ ⟨_, b2⟩ (.int .i64 v.1.1.pos) (.int .i64 v.1.1.charge) (.bool v.1.1.bolted) (.int .i64 v.1.2.1) (.int .i64 v.1.2.2.1) (.int .i64 v.1.2.2.2))
          have HA3 := hid (setLd (A := A5) (j := 2) hbV hwV hA1 (.bool v.1.1.bolted) (setLd (A := A5) (j := 1) hbV hwV hA1 (.int .i64 v.1.1.charge) (setLd (A := A5) (j := 0) hbV hwV hA1 (.int .i64 v.1.1.pos) hS)))
          have HS6 := hid (setLd (A := B5) (j := 2) hbV hwV hB1 (.int .i64 v.1.2.2.2) (setLd (A := B5) (j := 1) hbV hwV hB1 (.int .i64 v.1.2.2.1) (setLd (A := B5) (j := 0) hbV hwV hB1 (.int .i64 v.1.2.1) HA3.out)))
          clear hA3 hB3 hS
          refine wpAnyH_ready (rs := [13]) (by kernel_rfl) (by simp) ?_
          refine AllReadyH.cons (o := { dst := _, op := _, type := _, pos := _, after := _, guard := _ }) rfl (fun K hK => ?_) AllReadyH.nil
          go_simp
          refine hK.out _ _ ?_ (fun hHeld => ?_)
          · (try dsimp only); exact HA3.out
          clear hK K
          try simp only [Act.put, List.setIfInBounds_toArray, List.set_cons_zero, List.set_cons_succ]
          have c0 : World.cell? _ ⟨B5, 0, none⟩ = _ := (cs_o (x := (wv.setCell ⟨A5, 0, none⟩ (.int .i64 v.1.1.pos)).setCell ⟨A5, 1, none⟩ (.int .i64 v.1.1.charge)) (c := A5) (j := 2) (v := .bool v.1.1.bolted) (.inl (Ne.symm hAB))).trans ((cs_o (.inl (Ne.symm hAB))).trans ((cs_o (.inl (Ne.symm hAB))).trans b0))
          have c1 : World.cell? _ ⟨B5, 1, none⟩ = _ := (cs_o (x := (wv.setCell ⟨A5, 0, none⟩ (.int .i64 v.1.1.pos)).setCell ⟨A5, 1, none⟩ (.int .i64 v.1.1.charge)) (c := A5) (j := 2) (v := .bool v.1.1.bolted) (.inl (Ne.symm hAB))).trans ((cs_o (.inl (Ne.symm hAB))).trans ((cs_o (.inl (Ne.symm hAB))).trans b1))
          have c2 : World.cell? _ ⟨B5, 2, none⟩ = _ := (cs_o (x := (wv.setCell ⟨A5, 0, none⟩ (.int .i64 v.1.1.pos)).setCell ⟨A5, 1, none⟩ (.int .i64 v.1.1.charge)) (c := A5) (j := 2) (v := .bool v.1.1.bolted) (.inl (Ne.symm hAB))).trans ((cs_o (.inl (Ne.symm hAB))).trans ((cs_o (.inl (Ne.symm hAB))).trans b2))
          refine wpAnyH_ready (rs := [14]) (by kernel_rfl) (by simp) ?_
          refine AllReadyH.cons (o := { dst := _, op := _, type := _, pos := _, after := _, guard := _ }) rfl (fun K hK => ?_) AllReadyH.nil
          go_simp
          refine hK.out _ _ ?_ (fun hHeld => ?_)
          · (try dsimp only); exact HS6.out
          clear hK K
          try simp only [Act.put, List.setIfInBounds_toArray, List.set_cons_zero, List.set_cons_succ]
          refine wpAnyH_take (i := 15) (oi := { dst := _, op := _, type := _, pos := _, after := _, guard := _ }) (v := ?_) rfl (by kernel_rfl) (by kernel_rfl) (by kernel_rfl) (fun _ _ _ h => h) (Or.inl ⟨by rfl, ?_⟩) HS6.out ?_
          rotate_left
          · intro wS hSw; (try dsimp only at hSw); go_simp; try (with_reducible rfl)
          try simp only [Act.put, List.setIfInBounds_toArray, List.set_cons_zero, List.set_cons_succ]
          refine wpAnyH_done (by kernel_rfl) ?_ _
          refine NoPanic.normal ?_
          clear a0 a1 a2 b0 b1 b2 c0 c1 c2 HA3 hA4 hB4 hHeld
          generalize World.setCell (World.setCell (World.setCell (World.setCell (World.setCell (World.setCell wv _ _) _ _) _ _) _ _) _ _) _ _ = U2 at *
          obtain ⟨bl0, bl1, bl2, bm0, bm1, bm2⟩ := HFin.out
          have HD2 := hid HS6.out.1
          have hUU := HS6.out.2.1
          have al0 := (hUU.cell (p := ⟨A4, 0, none⟩) hA4U).trans AK0.out
          have al1 := (hUU.cell (p := ⟨A4, 1, none⟩) hA4U).trans AK1.out
          have al2 := (hUU.cell (p := ⟨A4, 2, none⟩) hA4U).trans AK2.out
          have am0 := (hUU.cell (p := ⟨B4, 0, none⟩) hB4U).trans BK0.out
          have am1 := (hUU.cell (p := ⟨B4, 1, none⟩) hB4U).trans BK1.out
          have am2 := (hUU.cell (p := ⟨B4, 2, none⟩) hB4U).trans BK2.out
          clear hUU HFin HS6 hAB hA1 hA2 hB1 hB2 s0 s1 s2 t0 t1 t2 t3
          go_wp2_with fail
          exact ⟨⟨k + 1, by omega, by omega, by go_num, HD2⟩, by simp [intOf]; omega⟩
      · dsimp only at hV ⊢
        have V6 : vs 35 = .tuple #[.agg #[.int .i64 v.1.1.pos, .int .i64 v.1.1.charge, .bool v.1.1.bolted], .agg #[.int .i64 v.1.2.1, .int .i64 v.1.2.2.1, .int .i64 v.1.2.2.2], .int .i64 v.2] := hV (6, 35) (by simp)
        have V7 : vs 28 = .tuple #[.agg #[.int .i64 v.1.1.pos, .int .i64 v.1.1.charge, .bool v.1.1.bolted], .agg #[.int .i64 v.1.2.1, .int .i64 v.1.2.2.1, .int .i64 v.1.2.2.2], .int .i64 v.2] := hV (7, 28) (by simp)
        have V8 : vs 36 = .agg #[.int .i64 v.1.1.pos, .int .i64 v.1.1.charge, .bool v.1.1.bolted] := hV (8, 36) (by simp)
        have V9 : vs 37 = .agg #[.int .i64 v.1.2.1, .int .i64 v.1.2.2.1, .int .i64 v.1.2.2.2] := hV (9, 37) (by simp)
        obtain ⟨A4, eA, hA1, hA2, hA3, hA4⟩ : NewV V.heap.size [.int .i64 0, .int .i64 0, .bool false] (vs 8) wv := hV (11, 8) (by simp)
        obtain ⟨B4, eB, hB1, hB2, hB3, hB4⟩ : NewV V.heap.size [.int .i64 0, .int .i64 0, .int .i64 0] (vs 9) wv := hV (12, 9) (by simp)
        have hAB := box_ne hA3 hB3
        simp only [putL, V6, V7, V8, V9, eA, eB]
        try simp only [Act.put, List.setIfInBounds_toArray, List.set_cons_zero, List.set_cons_succ]
        have hSg := hS
        refine wpAnyH_take (i := 10) (oi := { dst := _, op := _, type := _, pos := _, after := _, guard := _ }) (v := ?_) rfl (by kernel_rfl) (by kernel_rfl) (by kernel_rfl) (fun _ _ _ h => h) (Or.inl ⟨by rfl, ?_⟩) (by assumption) ?_
        rotate_left
        · intro wS hSw; (try dsimp only at hSw); go_simp; try (with_reducible rfl)
        try simp only [Act.put, List.setIfInBounds_toArray, List.set_cons_zero, List.set_cons_succ]
        clear hSg
        clear hV V6 V7 V8 V9 eA eB hHeld
        have a0 := range_cell hA3 (show [_, _, _][0]? = some (Value.int .i64 0) from rfl)
        have a1 := range_cell hA3 (show [_, _, _][1]? = some (Value.int .i64 0) from rfl)
        have a2 := range_cell hA3 (show [_, _, _][2]? = some (Value.bool false) from rfl)
        have b0 := range_cell hB3 (show [_, _, _][0]? = some (Value.int .i64 0) from rfl)
        have b1 := range_cell hB3 (show [_, _, _][1]? = some (Value.int .i64 0) from rfl)
        have b2 := range_cell hB3 (show [_, _, _][2]? = some (Value.int .i64 0) from rfl)
        have HFin := hid (fin10 (U := wv) (A := A4) (B := B4) hAB ⟨_, a0⟩ ⟨_, a1⟩ ⟨_, a2⟩ ⟨_, b0⟩ ⟨_, b1⟩ ⟨_, b2⟩ (.int .i64 v.1.1.pos) (.int .i64 v.1.1.charge) (.bool v.1.1.bolted) (.int .i64 v.1.2.1) (.int .i64 v.1.2.2.1) (.int .i64 v.1.2.2.2))
        have HA3 := hid (setLd (A := A4) (j := 2) hbV hwV hA1 (.bool v.1.1.bolted) (setLd (A := A4) (j := 1) hbV hwV hA1 (.int .i64 v.1.1.charge) (setLd (A := A4) (j := 0) hbV hwV hA1 (.int .i64 v.1.1.pos) hS)))
        have HS6 := hid (setLd (A := B4) (j := 2) hbV hwV hB1 (.int .i64 v.1.2.2.2) (setLd (A := B4) (j := 1) hbV hwV hB1 (.int .i64 v.1.2.2.1) (setLd (A := B4) (j := 0) hbV hwV hB1 (.int .i64 v.1.2.1) HA3.out)))
        clear hA3 hB3 hS
        refine wpAnyH_ready (rs := [13]) (by kernel_rfl) (by simp) ?_
        refine AllReadyH.cons (o := { dst := _, op := _, type := _, pos := _, after := _, guard := _ }) rfl (fun K hK => ?_) AllReadyH.nil
        go_simp
        refine hK.out _ _ ?_ (fun hHeld => ?_)
        · (try dsimp only); exact HA3.out
        clear hK K
        try simp only [Act.put, List.setIfInBounds_toArray, List.set_cons_zero, List.set_cons_succ]
        have c0 : World.cell? _ ⟨B4, 0, none⟩ = _ := (cs_o (x := (wv.setCell ⟨A4, 0, none⟩ (.int .i64 v.1.1.pos)).setCell ⟨A4, 1, none⟩ (.int .i64 v.1.1.charge)) (c := A4) (j := 2) (v := .bool v.1.1.bolted) (.inl (Ne.symm hAB))).trans ((cs_o (.inl (Ne.symm hAB))).trans ((cs_o (.inl (Ne.symm hAB))).trans b0))
        have c1 : World.cell? _ ⟨B4, 1, none⟩ = _ := (cs_o (x := (wv.setCell ⟨A4, 0, none⟩ (.int .i64 v.1.1.pos)).setCell ⟨A4, 1, none⟩ (.int .i64 v.1.1.charge)) (c := A4) (j := 2) (v := .bool v.1.1.bolted) (.inl (Ne.symm hAB))).trans ((cs_o (.inl (Ne.symm hAB))).trans ((cs_o (.inl (Ne.symm hAB))).trans b1))
        have c2 : World.cell? _ ⟨B4, 2, none⟩ = _ := (cs_o (x := (wv.setCell ⟨A4, 0, none⟩ (.int .i64 v.1.1.pos)).setCell ⟨A4, 1, none⟩ (.int .i64 v.1.1.charge)) (c := A4) (j := 2) (v := .bool v.1.1.bolted) (.inl (Ne.symm hAB))).trans ((cs_o (.inl (Ne.symm hAB))).trans ((cs_o (.inl (Ne.symm hAB))).trans b2))
        refine wpAnyH_ready (rs := [14]) (by kernel_rfl) (by simp) ?_
        refine AllReadyH.cons (o := { dst := _, op := _, type := _, pos := _, after := _, guard := _ }) rfl (fun K hK => ?_) AllReadyH.nil
        go_simp
        refine hK.out _ _ ?_ (fun hHeld => ?_)
        · (try dsimp only); exact HS6.out
        clear hK K
        try simp only [Act.put, List.setIfInBounds_toArray, List.set_cons_zero, List.set_cons_succ]
        refine wpAnyH_take (i := 15) (oi := { dst := _, op := _, type := _, pos := _, after := _, guard := _ }) (v := ?_) rfl (by kernel_rfl) (by kernel_rfl) (by kernel_rfl) (fun _ _ _ h => h) (Or.inl ⟨by rfl, ?_⟩) HS6.out ?_
        rotate_left
        · intro wS hSw; (try dsimp only at hSw); go_simp; try (with_reducible rfl)
        try simp only [Act.put, List.setIfInBounds_toArray, List.set_cons_zero, List.set_cons_succ]
        refine wpAnyH_done (by kernel_rfl) ?_ _
        refine NoPanic.normal ?_
        clear a0 a1 a2 b0 b1 b2 c0 c1 c2 HA3 hA4 hB4 hHeld
        generalize World.setCell (World.setCell (World.setCell (World.setCell (World.setCell (World.setCell wv _ _) _ _) _ _) _ _) _ _) _ _ = U at *
        obtain ⟨ak0, ak1, ak2, bk0, bk1, bk2⟩ := HFin.out
        have HD1 := hid HS6.out.1
        obtain ⟨-, hVU, s0, s1, s2, t0, t1, t2, t3⟩ := HS6.out
        have hA4U : A4 < U.heap.size := World.block_lt_of_cell? U _ ak0
        have hB4U : B4 < U.heap.size := World.block_lt_of_cell? U _ bk0
        have hbU : b < U.heap.size := Nat.lt_of_lt_of_le hbV hVU.size
        have hwU : w.heap.size + 1 < U.heap.size := Nat.lt_of_lt_of_le hwV hVU.size
        have AK0 := hid ak0; have AK1 := hid ak1; have AK2 := hid ak2; have BK0 := hid bk0; have BK1 := hid bk1; have BK2 := hid bk2
        clear hVU HFin HS6 hbV hwV hAB hA1 hA2 hB1 hB2 ak0 ak1 ak2 bk0 bk1 bk2
        have hbV := hbU
        have hwV := hwU
        clear hbU hwU
        go_upto_region 5 with fail
        refine wp_region_noPanic ?_
        refine wp_region_held_drew (S := (fun w' => DrW w g p s w' ∧ Below U.heap.size U w' ∧ w'.cell? ⟨w.heap.size + 1, 0, none⟩ = some (.int .i64 s.pos) ∧ w'.cell? ⟨w.heap.size + 1, 1, none⟩ = some (.int .i64 s.charge) ∧ w'.cell? ⟨w.heap.size + 1, 2, none⟩ = some (.bool s.bolted) ∧ w'.cell? ⟨b, o + k * 4, none⟩ = some (.int .i64 t.order) ∧ w'.cell? ⟨b, o + k * 4 + 1, none⟩ = some (.bool t.power) ∧ w'.cell? ⟨b, o + k * 4 + 2, none⟩ = some (.int .i64 t.outer) ∧ w'.cell? ⟨b, o + k * 4 + 3, none⟩ = some (.int .i64 t.inner))) (by kernel_rfl) ?_ (fun hHeld => ?_)
        · exact ⟨HD1.out.drew, (Below.refl _ _).drew, by simpa using s0, by simpa using s1, by simpa using s2, by simpa using t0, by simpa using t1, by simpa using t2, by simpa using t3⟩
        refine wpAnyH_take (i := 0) (oi := { dst := _, op := _, type := _, pos := _, after := _, guard := _ }) (v := .agg (gtL g p).toArray) rfl (by kernel_rfl) (by kernel_rfl) (by kernel_rfl) (fun _ _ _ h => h) (yieldsIf_load_mid (by rfl) 25 _ rfl w.heap.size 0 rfl (gtL g p) _ (fun _ hS => hS.1.rows) Tryz.underlying25 rfl (by kernel_rfl)) (by assumption) ?_
        try simp only [Act.put, List.setIfInBounds_toArray, List.set_cons_zero, List.set_cons_succ]
        refine wpAnyH_take (i := 1) (oi := { dst := _, op := _, type := _, pos := _, after := _, guard := _ }) (v := ?_) rfl (by kernel_rfl) (by kernel_rfl) (by kernel_rfl) (fun _ _ _ h => h) (Or.inl ⟨by rfl, ?_⟩) (by assumption) ?_
        rotate_left
        · intro wS hSw; (try dsimp only at hSw); go_simp; try (with_reducible rfl)
        try simp only [Act.put, List.setIfInBounds_toArray, List.set_cons_zero, List.set_cons_succ]
        refine wpAnyH_take (i := 2) (oi := { dst := _, op := _, type := _, pos := _, after := _, guard := _ }) (v := ?_) rfl (by kernel_rfl) (by kernel_rfl) (by kernel_rfl) (fun _ _ _ h => h) (Or.inl ⟨by rfl, ?_⟩) (by assumption) ?_
        rotate_left
        · intro wS hSw; (try dsimp only at hSw); go_simp; try (with_reducible rfl)
        try simp only [Act.put, List.setIfInBounds_toArray, List.set_cons_zero, List.set_cons_succ]
        refine wpAnyH_take (i := 3) (oi := { dst := _, op := _, type := _, pos := _, after := _, guard := _ }) (v := ?_) rfl (by kernel_rfl) (by kernel_rfl) (by kernel_rfl) (fun _ _ _ h => h) (Or.inl ⟨by rfl, ?_⟩) (by assumption) ?_
        rotate_left
        · intro wS hSw; (try dsimp only at hSw); go_simp; try (with_reducible rfl)
        try simp only [Act.put, List.setIfInBounds_toArray, List.set_cons_zero, List.set_cons_succ]
        refine wpAnyH_take (i := 4) (oi := { dst := _, op := _, type := _, pos := _, after := _, guard := _ }) (v := ?_) rfl (by kernel_rfl) (by kernel_rfl) (by kernel_rfl) (fun _ _ _ h => h) (Or.inl ⟨by rfl, ?_⟩) (by assumption) ?_
        rotate_left
        · intro wS hSw; (try dsimp only at hSw); go_simp; try (with_reducible rfl)
        try simp only [Act.put, List.setIfInBounds_toArray, List.set_cons_zero, List.set_cons_succ]
        refine wpAnyH_take (i := 5) (oi := { dst := _, op := _, type := _, pos := _, after := _, guard := _ }) (v := ?_) rfl (by kernel_rfl) (by kernel_rfl) (by kernel_rfl) (fun _ _ _ h => h) (Or.inl ⟨by rfl, ?_⟩) (by assumption) ?_
        rotate_left
        · intro wS hSw; (try dsimp only at hSw); go_simp; try (with_reducible rfl)
        try simp only [Act.put, List.setIfInBounds_toArray, List.set_cons_zero, List.set_cons_succ]
        refine wpAnyH_partXAlts (lawV U.heap.size v) [9, 10] #[true, true, true, true, true, true, true, true, true, true, true, true, true, false, false, false] 88 7 3 rfl rfl (by decide +kernel) (by decide +kernel) (by kernel_rfl) (by kernel_rfl) (by decide +kernel) (by decide +kernel) (lawV_stable _ _) (by assumption) (by decide +kernel) (fun i o ho hd hd1 d a wv hS hI hall => ?_) [(#[true, true, true, true, true, true, true, true, true, true, true, true, true, false, false, false], [(6, 46), (7, 39), (8, 47), (9, 48), (10, 49), (11, 11), (12, 12)], 0), (#[true, true, true, true, true, true, true, true, true, false, true, true, true, false, false, false], [(6, 46), (7, 39), (8, 47), (10, 49), (11, 11), (12, 12)], 1), (#[true, true, true, true, true, true, true, true, true, true, false, true, true, false, false, false], [(6, 46), (7, 39), (8, 47), (9, 48), (11, 11), (12, 12)], 1), (#[true, true, true, true, true, true, true, true, true, false, false, true, true, false, false, false], [(6, 46), (7, 39), (8, 47), (11, 11), (12, 12)], 2)] (fun b => by rcases h9 : b 9 with _ | _ <;> rcases h10 : b 10 with _ | _ <;> simp [maskD, h9, h10]) (by decide +kernel) (fun alt halt vs wv hS hV => ?_)
        · have hm := todo_mem (l := [6, 7, 8, 9, 10, 11, 12, 13, 14, 15]) (by decide +kernel) ho hd
          simp only [List.mem_cons, List.not_mem_nil, or_false] at hm
          rcases hm with rfl | rfl | rfl | rfl | rfl | rfl | rfl | rfl | rfl | rfl
          · injection ho with ho
            subst ho
            have e40 := hI.old (t := 40) (by decide +kernel) rfl
            have e41 := hI.old (t := 41) (by decide +kernel) rfl
            have e45 := hI.old (t := 45) (by decide +kernel) rfl
            refine wp_callF (F := 9) (args := #[.agg (gtL g p).toArray, .agg #[.int .i64 s.pos, .int .i64 s.charge, .bool s.bolted], .agg #[.int .i64 t.order, .bool t.power, .int .i64 t.outer, .int .i64 t.inner]]) (by simp [execOp, go_sem, e40, e41, e45]) ?_
            refine (HRst.out _ hS.1.below).mono ?_
            rintro e w' ⟨rfl, hb⟩
            exact ⟨_, rfl, _, rfl, rfl, keepLd hbV hb hS, hb⟩
          · injection ho with ho
            subst ho
            obtain ⟨v6, e6, V6⟩ := hI.new (i := 6) (t := 46) rfl (by decide +kernel) (hall ⟨6, .data⟩ (by simp) rfl) rfl
            obtain rfl : v6 = .tuple #[.agg #[.int .i64 v.1.1.pos, .int .i64 v.1.1.charge, .bool v.1.1.bolted], .agg #[.int .i64 v.1.2.1, .int .i64 v.1.2.2.1, .int .i64 v.1.2.2.2], .int .i64 v.2] := V6
            refine wp_valF (v := .tuple #[.agg #[.int .i64 v.1.1.pos, .int .i64 v.1.1.charge, .bool v.1.1.bolted], .agg #[.int .i64 v.1.2.1, .int .i64 v.1.2.2.1, .int .i64 v.1.2.2.2], .int .i64 v.2]) (w' := wv) (by simp [execOp, go_sem, e6]) ?_
            exact ⟨_, rfl, rfl, hS, Below.refl _ _⟩
          · injection ho with ho
            subst ho
            obtain ⟨v7, e7, V7⟩ := hI.new (i := 7) (t := 39) rfl (by decide +kernel) (hall ⟨7, .data⟩ (by simp) rfl) rfl
            obtain rfl : v7 = .tuple #[.agg #[.int .i64 v.1.1.pos, .int .i64 v.1.1.charge, .bool v.1.1.bolted], .agg #[.int .i64 v.1.2.1, .int .i64 v.1.2.2.1, .int .i64 v.1.2.2.2], .int .i64 v.2] := V7
            refine wp_valF (v := .agg #[.int .i64 v.1.1.pos, .int .i64 v.1.1.charge, .bool v.1.1.bolted]) (w' := wv) (by simp [execOp, go_sem, e7]) ?_
            exact ⟨_, rfl, rfl, hS, Below.refl _ _⟩
          · injection ho with ho
            subst ho
            obtain ⟨v7, e7, V7⟩ := hI.new (i := 7) (t := 39) rfl (by decide +kernel) (hall ⟨7, .data⟩ (by simp) rfl) rfl
            obtain rfl : v7 = .tuple #[.agg #[.int .i64 v.1.1.pos, .int .i64 v.1.1.charge, .bool v.1.1.bolted], .agg #[.int .i64 v.1.2.1, .int .i64 v.1.2.2.1, .int .i64 v.1.2.2.2], .int .i64 v.2] := V7
            refine wp_valF (v := .agg #[.int .i64 v.1.2.1, .int .i64 v.1.2.2.1, .int .i64 v.1.2.2.2]) (w' := wv) (by simp [execOp, go_sem, e7]) ?_
            exact ⟨_, rfl, rfl, hS, Below.refl _ _⟩
          · injection ho with ho
            subst ho
            obtain ⟨v7, e7, V7⟩ := hI.new (i := 7) (t := 39) rfl (by decide +kernel) (hall ⟨7, .data⟩ (by simp) rfl) rfl
            obtain rfl : v7 = .tuple #[.agg #[.int .i64 v.1.1.pos, .int .i64 v.1.1.charge, .bool v.1.1.bolted], .agg #[.int .i64 v.1.2.1, .int .i64 v.1.2.2.1, .int .i64 v.1.2.2.2], .int .i64 v.2] := V7
            refine wp_valF (v := .int .i64 v.2) (w' := wv) (by simp [execOp, go_sem, e7]) ?_
            exact ⟨_, rfl, rfl, hS, Below.refl _ _⟩
          · injection ho with ho
            subst ho
            refine wp_valF (v := .pointer (some ⟨wv.heap.size, 0, none⟩)) (w' := wv.alloc (.cells #[.int .i64 0, .int .i64 0, .bool false] 27)) (by simp [execOp, go_sem]) ?_
            have hb : Below wv.heap.size wv (wv.alloc (.cells #[.int .i64 0, .int .i64 0, .bool false] 27)) := (Below.refl _ _).alloc (Nat.le_refl _) _
            exact ⟨_, rfl, NewV.fresh _ _ _ _ hS.2.1.size, keepLd hbV hb hS, hb⟩
          · injection ho with ho
            subst ho
            refine wp_valF (v := .pointer (some ⟨wv.heap.size, 0, none⟩)) (w' := wv.alloc (.cells #[.int .i64 0, .int .i64 0, .int .i64 0] 31)) (by simp [execOp, go_sem]) ?_
            have hb : Below wv.heap.size wv (wv.alloc (.cells #[.int .i64 0, .int .i64 0, .int .i64 0] 31)) := (Below.refl _ _).alloc (Nat.le_refl _) _
            exact ⟨_, rfl, NewV.fresh _ _ _ _ hS.2.1.size, keepLd hbV hb hS, hb⟩
          · exact absurd hd1 (by decide)
          · exact absurd hd1 (by decide)
          · exact absurd hd1 (by decide)
        simp only [List.mem_cons, List.not_mem_nil, or_false] at halt
        rcases halt with rfl | rfl | rfl | rfl
        · dsimp only at hV ⊢
          have V6 : vs 46 = .tuple #[.agg #[.int .i64 v.1.1.pos, .int .i64 v.1.1.charge, .bool v.1.1.bolted], .agg #[.int .i64 v.1.2.1, .int .i64 v.1.2.2.1, .int .i64 v.1.2.2.2], .int .i64 v.2] := hV (6, 46) (by simp)
          have V7 : vs 39 = .tuple #[.agg #[.int .i64 v.1.1.pos, .int .i64 v.1.1.charge, .bool v.1.1.bolted], .agg #[.int .i64 v.1.2.1, .int .i64 v.1.2.2.1, .int .i64 v.1.2.2.2], .int .i64 v.2] := hV (7, 39) (by simp)
          have V8 : vs 47 = .agg #[.int .i64 v.1.1.pos, .int .i64 v.1.1.charge, .bool v.1.1.bolted] := hV (8, 47) (by simp)
          have V9 : vs 48 = .agg #[.int .i64 v.1.2.1, .int .i64 v.1.2.2.1, .int .i64 v.1.2.2.2] := hV (9, 48) (by simp)
          have V10 : vs 49 = .int .i64 v.2 := hV (10, 49) (by simp)
          obtain ⟨A5, eA, hA1, hA2, hA3, hA4⟩ : NewV U.heap.size [.int .i64 0, .int .i64 0, .bool false] (vs 11) wv := hV (11, 11) (by simp)
          obtain ⟨B5, eB, hB1, hB2, hB3, hB4⟩ : NewV U.heap.size [.int .i64 0, .int .i64 0, .int .i64 0] (vs 12) wv := hV (12, 12) (by simp)
          have hAB := box_ne hA3 hB3
          simp only [putL, V6, V7, V8, V9, V10, eA, eB]
          try simp only [Act.put, List.setIfInBounds_toArray, List.set_cons_zero, List.set_cons_succ]
          have hSg := hS
          clear hSg
          clear hV V6 V7 V8 V9 V10 eA eB hHeld
          have a0 := range_cell hA3 (show [_, _, _][0]? = some (Value.int .i64 0) from rfl)
          have a1 := range_cell hA3 (show [_, _, _][1]? = some (Value.int .i64 0) from rfl)
          have a2 := range_cell hA3 (show [_, _, _][2]? = some (Value.bool false) from rfl)
          have b0 := range_cell hB3 (show [_, _, _][0]? = some (Value.int .i64 0) from rfl)
          have b1 := range_cell hB3 (show [_, _, _][1]? = some (Value.int .i64 0) from rfl)
          have b2 := range_cell hB3 (show [_, _, _][2]? = some (Value.int .i64 0) from rfl)
          have HFin := hid (fin10 (U := wv) (A := A5) (B := B5) hAB ⟨_, a0⟩ ⟨_, a1⟩ ⟨_, a2⟩ ⟨_, b0⟩ ⟨_, b1⟩ ⟨_, b2⟩ (.int .i64 v.1.1.pos) (.int .i64 v.1.1.charge) (.bool v.1.1.bolted) (.int .i64 v.1.2.1) (.int .i64 v.1.2.2.1) (.int .i64 v.1.2.2.2))
          have HA3 := hid (setLd (A := A5) (j := 2) hbV hwV hA1 (.bool v.1.1.bolted) (setLd (A := A5) (j := 1) hbV hwV hA1 (.int .i64 v.1.1.charge) (setLd (A := A5) (j := 0) hbV hwV hA1 (.int .i64 v.1.1.pos) hS)))
          have HS6 := hid (setLd (A := B5) (j := 2) hbV hwV hB1 (.int .i64 v.1.2.2.2) (setLd (A := B5) (j := 1) hbV hwV hB1 (.int .i64 v.1.2.2.1) (setLd (A := B5) (j := 0) hbV hwV hB1 (.int .i64 v.1.2.1) HA3.out)))
          clear hA3 hB3 hS
          refine wpAnyH_ready (rs := [13]) (by kernel_rfl) (by simp) ?_
          refine AllReadyH.cons (o := { dst := _, op := _, type := _, pos := _, after := _, guard := _ }) rfl (fun K hK => ?_) AllReadyH.nil
          go_simp
          refine hK.out _ _ ?_ (fun hHeld => ?_)
          · (try dsimp only); exact HA3.out
          clear hK K
          try simp only [Act.put, List.setIfInBounds_toArray, List.set_cons_zero, List.set_cons_succ]
          have c0 : World.cell? _ ⟨B5, 0, none⟩ = _ := (cs_o (x := (wv.setCell ⟨A5, 0, none⟩ (.int .i64 v.1.1.pos)).setCell ⟨A5, 1, none⟩ (.int .i64 v.1.1.charge)) (c := A5) (j := 2) (v := .bool v.1.1.bolted) (.inl (Ne.symm hAB))).trans ((cs_o (.inl (Ne.symm hAB))).trans ((cs_o (.inl (Ne.symm hAB))).trans b0))
          have c1 : World.cell? _ ⟨B5, 1, none⟩ = _ := (cs_o (x := (wv.setCell ⟨A5, 0, none⟩ (.int .i64 v.1.1.pos)).setCell ⟨A5, 1, none⟩ (.int .i64 v.1.1.charge)) (c := A5) (j := 2) (v := .bool v.1.1.bolted) (.inl (Ne.symm hAB))).trans ((cs_o (.inl (Ne.symm hAB))).trans ((cs_o (.inl (Ne.symm hAB))).trans b1))
          have c2 : World.cell? _ ⟨B5, 2, none⟩ = _ := (cs_o (x := (wv.setCell ⟨A5, 0, none⟩ (.int .i64 v.1.1.pos)).setCell ⟨A5, 1, none⟩ (.int .i64 v.1.1.charge)) (c := A5) (j := 2) (v := .bool v.1.1.bolted) (.inl (Ne.symm hAB))).trans ((cs_o (.inl (Ne.symm hAB))).trans ((cs_o (.inl (Ne.symm hAB))).trans b2))
          refine wpAnyH_ready (rs := [14]) (by kernel_rfl) (by simp) ?_
          refine AllReadyH.cons (o := { dst := _, op := _, type := _, pos := _, after := _, guard := _ }) rfl (fun K hK => ?_) AllReadyH.nil
          go_simp
          refine hK.out _ _ ?_ (fun hHeld => ?_)
          · (try dsimp only); exact HS6.out
          clear hK K
          try simp only [Act.put, List.setIfInBounds_toArray, List.set_cons_zero, List.set_cons_succ]
          refine wpAnyH_take (i := 15) (oi := { dst := _, op := _, type := _, pos := _, after := _, guard := _ }) (v := ?_) rfl (by kernel_rfl) (by kernel_rfl) (by kernel_rfl) (fun _ _ _ h => h) (Or.inl ⟨by rfl, ?_⟩) HS6.out ?_
          rotate_left
          · intro wS hSw; (try dsimp only at hSw); go_simp; try (with_reducible rfl)
          try simp only [Act.put, List.setIfInBounds_toArray, List.set_cons_zero, List.set_cons_succ]
          refine wpAnyH_done (by kernel_rfl) ?_ _
          refine NoPanic.normal ?_
          clear a0 a1 a2 b0 b1 b2 c0 c1 c2 HA3 hA4 hB4 hHeld
          generalize World.setCell (World.setCell (World.setCell (World.setCell (World.setCell (World.setCell wv _ _) _ _) _ _) _ _) _ _) _ _ = U2 at *
          obtain ⟨bl0, bl1, bl2, bm0, bm1, bm2⟩ := HFin.out
          have HD2 := hid HS6.out.1
          have hUU := HS6.out.2.1
          have al0 := (hUU.cell (p := ⟨A4, 0, none⟩) hA4U).trans AK0.out
          have al1 := (hUU.cell (p := ⟨A4, 1, none⟩) hA4U).trans AK1.out
          have al2 := (hUU.cell (p := ⟨A4, 2, none⟩) hA4U).trans AK2.out
          have am0 := (hUU.cell (p := ⟨B4, 0, none⟩) hB4U).trans BK0.out
          have am1 := (hUU.cell (p := ⟨B4, 1, none⟩) hB4U).trans BK1.out
          have am2 := (hUU.cell (p := ⟨B4, 2, none⟩) hB4U).trans BK2.out
          clear hUU HFin HS6 hAB hA1 hA2 hB1 hB2 s0 s1 s2 t0 t1 t2 t3
          go_wp2_with fail
          exact ⟨⟨k + 1, by omega, by omega, by go_num, HD2⟩, by simp [intOf]; omega⟩
        · dsimp only at hV ⊢
          have V6 : vs 46 = .tuple #[.agg #[.int .i64 v.1.1.pos, .int .i64 v.1.1.charge, .bool v.1.1.bolted], .agg #[.int .i64 v.1.2.1, .int .i64 v.1.2.2.1, .int .i64 v.1.2.2.2], .int .i64 v.2] := hV (6, 46) (by simp)
          have V7 : vs 39 = .tuple #[.agg #[.int .i64 v.1.1.pos, .int .i64 v.1.1.charge, .bool v.1.1.bolted], .agg #[.int .i64 v.1.2.1, .int .i64 v.1.2.2.1, .int .i64 v.1.2.2.2], .int .i64 v.2] := hV (7, 39) (by simp)
          have V8 : vs 47 = .agg #[.int .i64 v.1.1.pos, .int .i64 v.1.1.charge, .bool v.1.1.bolted] := hV (8, 47) (by simp)
          have V10 : vs 49 = .int .i64 v.2 := hV (10, 49) (by simp)
          obtain ⟨A5, eA, hA1, hA2, hA3, hA4⟩ : NewV U.heap.size [.int .i64 0, .int .i64 0, .bool false] (vs 11) wv := hV (11, 11) (by simp)
          obtain ⟨B5, eB, hB1, hB2, hB3, hB4⟩ : NewV U.heap.size [.int .i64 0, .int .i64 0, .int .i64 0] (vs 12) wv := hV (12, 12) (by simp)
          have hAB := box_ne hA3 hB3
          simp only [putL, V6, V7, V8, V10, eA, eB]
          try simp only [Act.put, List.setIfInBounds_toArray, List.set_cons_zero, List.set_cons_succ]
          have hSg := hS
          refine wpAnyH_take (i := 9) (oi := { dst := _, op := _, type := _, pos := _, after := _, guard := _ }) (v := ?_) rfl (by kernel_rfl) (by kernel_rfl) (by kernel_rfl) (fun _ _ _ h => h) (Or.inl ⟨by rfl, ?_⟩) (by assumption) ?_
          rotate_left
          · intro wS hSw; (try dsimp only at hSw); go_simp; try (with_reducible rfl)
          try simp only [Act.put, List.setIfInBounds_toArray, List.set_cons_zero, List.set_cons_succ]
          clear hSg
          clear hV V6 V7 V8 V10 eA eB hHeld
          have a0 := range_cell hA3 (show [_, _, _][0]? = some (Value.int .i64 0) from rfl)
          have a1 := range_cell hA3 (show [_, _, _][1]? = some (Value.int .i64 0) from rfl)
          have a2 := range_cell hA3 (show [_, _, _][2]? = some (Value.bool false) from rfl)
          have b0 := range_cell hB3 (show [_, _, _][0]? = some (Value.int .i64 0) from rfl)
          have b1 := range_cell hB3 (show [_, _, _][1]? = some (Value.int .i64 0) from rfl)
          have b2 := range_cell hB3 (show [_, _, _][2]? = some (Value.int .i64 0) from rfl)
          have HFin := hid (fin10 (U := wv) (A := A5) (B := B5) hAB ⟨_, a0⟩ ⟨_, a1⟩ ⟨_, a2⟩ ⟨_, b0⟩ ⟨_, b1⟩ ⟨_, b2⟩ (.int .i64 v.1.1.pos) (.int .i64 v.1.1.charge) (.bool v.1.1.bolted) (.int .i64 v.1.2.1) (.int .i64 v.1.2.2.1) (.int .i64 v.1.2.2.2))
          have HA3 := hid (setLd (A := A5) (j := 2) hbV hwV hA1 (.bool v.1.1.bolted) (setLd (A := A5) (j := 1) hbV hwV hA1 (.int .i64 v.1.1.charge) (setLd (A := A5) (j := 0) hbV hwV hA1 (.int .i64 v.1.1.pos) hS)))
          have HS6 := hid (setLd (A := B5) (j := 2) hbV hwV hB1 (.int .i64 v.1.2.2.2) (setLd (A := B5) (j := 1) hbV hwV hB1 (.int .i64 v.1.2.2.1) (setLd (A := B5) (j := 0) hbV hwV hB1 (.int .i64 v.1.2.1) HA3.out)))
          clear hA3 hB3 hS
          refine wpAnyH_ready (rs := [13]) (by kernel_rfl) (by simp) ?_
          refine AllReadyH.cons (o := { dst := _, op := _, type := _, pos := _, after := _, guard := _ }) rfl (fun K hK => ?_) AllReadyH.nil
          go_simp
          refine hK.out _ _ ?_ (fun hHeld => ?_)
          · (try dsimp only); exact HA3.out
          clear hK K
          try simp only [Act.put, List.setIfInBounds_toArray, List.set_cons_zero, List.set_cons_succ]
          have c0 : World.cell? _ ⟨B5, 0, none⟩ = _ := (cs_o (x := (wv.setCell ⟨A5, 0, none⟩ (.int .i64 v.1.1.pos)).setCell ⟨A5, 1, none⟩ (.int .i64 v.1.1.charge)) (c := A5) (j := 2) (v := .bool v.1.1.bolted) (.inl (Ne.symm hAB))).trans ((cs_o (.inl (Ne.symm hAB))).trans ((cs_o (.inl (Ne.symm hAB))).trans b0))
          have c1 : World.cell? _ ⟨B5, 1, none⟩ = _ := (cs_o (x := (wv.setCell ⟨A5, 0, none⟩ (.int .i64 v.1.1.pos)).setCell ⟨A5, 1, none⟩ (.int .i64 v.1.1.charge)) (c := A5) (j := 2) (v := .bool v.1.1.bolted) (.inl (Ne.symm hAB))).trans ((cs_o (.inl (Ne.symm hAB))).trans ((cs_o (.inl (Ne.symm hAB))).trans b1))
          have c2 : World.cell? _ ⟨B5, 2, none⟩ = _ := (cs_o (x := (wv.setCell ⟨A5, 0, none⟩ (.int .i64 v.1.1.pos)).setCell ⟨A5, 1, none⟩ (.int .i64 v.1.1.charge)) (c := A5) (j := 2) (v := .bool v.1.1.bolted) (.inl (Ne.symm hAB))).trans ((cs_o (.inl (Ne.symm hAB))).trans ((cs_o (.inl (Ne.symm hAB))).trans b2))
          refine wpAnyH_ready (rs := [14]) (by kernel_rfl) (by simp) ?_
          refine AllReadyH.cons (o := { dst := _, op := _, type := _, pos := _, after := _, guard := _ }) rfl (fun K hK => ?_) AllReadyH.nil
          go_simp
          refine hK.out _ _ ?_ (fun hHeld => ?_)
          · (try dsimp only); exact HS6.out
          clear hK K
          try simp only [Act.put, List.setIfInBounds_toArray, List.set_cons_zero, List.set_cons_succ]
          refine wpAnyH_take (i := 15) (oi := { dst := _, op := _, type := _, pos := _, after := _, guard := _ }) (v := ?_) rfl (by kernel_rfl) (by kernel_rfl) (by kernel_rfl) (fun _ _ _ h => h) (Or.inl ⟨by rfl, ?_⟩) HS6.out ?_
          rotate_left
          · intro wS hSw; (try dsimp only at hSw); go_simp; try (with_reducible rfl)
          try simp only [Act.put, List.setIfInBounds_toArray, List.set_cons_zero, List.set_cons_succ]
          refine wpAnyH_done (by kernel_rfl) ?_ _
          refine NoPanic.normal ?_
          clear a0 a1 a2 b0 b1 b2 c0 c1 c2 HA3 hA4 hB4 hHeld
          generalize World.setCell (World.setCell (World.setCell (World.setCell (World.setCell (World.setCell wv _ _) _ _) _ _) _ _) _ _) _ _ = U2 at *
          obtain ⟨bl0, bl1, bl2, bm0, bm1, bm2⟩ := HFin.out
          have HD2 := hid HS6.out.1
          have hUU := HS6.out.2.1
          have al0 := (hUU.cell (p := ⟨A4, 0, none⟩) hA4U).trans AK0.out
          have al1 := (hUU.cell (p := ⟨A4, 1, none⟩) hA4U).trans AK1.out
          have al2 := (hUU.cell (p := ⟨A4, 2, none⟩) hA4U).trans AK2.out
          have am0 := (hUU.cell (p := ⟨B4, 0, none⟩) hB4U).trans BK0.out
          have am1 := (hUU.cell (p := ⟨B4, 1, none⟩) hB4U).trans BK1.out
          have am2 := (hUU.cell (p := ⟨B4, 2, none⟩) hB4U).trans BK2.out
          clear hUU HFin HS6 hAB hA1 hA2 hB1 hB2 s0 s1 s2 t0 t1 t2 t3
          go_wp2_with fail
          exact ⟨⟨k + 1, by omega, by omega, by go_num, HD2⟩, by simp [intOf]; omega⟩
        · dsimp only at hV ⊢
          have V6 : vs 46 = .tuple #[.agg #[.int .i64 v.1.1.pos, .int .i64 v.1.1.charge, .bool v.1.1.bolted], .agg #[.int .i64 v.1.2.1, .int .i64 v.1.2.2.1, .int .i64 v.1.2.2.2], .int .i64 v.2] := hV (6, 46) (by simp)
          have V7 : vs 39 = .tuple #[.agg #[.int .i64 v.1.1.pos, .int .i64 v.1.1.charge, .bool v.1.1.bolted], .agg #[.int .i64 v.1.2.1, .int .i64 v.1.2.2.1, .int .i64 v.1.2.2.2], .int .i64 v.2] := hV (7, 39) (by simp)
          have V8 : vs 47 = .agg #[.int .i64 v.1.1.pos, .int .i64 v.1.1.charge, .bool v.1.1.bolted] := hV (8, 47) (by simp)
          have V9 : vs 48 = .agg #[.int .i64 v.1.2.1, .int .i64 v.1.2.2.1, .int .i64 v.1.2.2.2] := hV (9, 48) (by simp)
          obtain ⟨A5, eA, hA1, hA2, hA3, hA4⟩ : NewV U.heap.size [.int .i64 0, .int .i64 0, .bool false] (vs 11) wv := hV (11, 11) (by simp)
          obtain ⟨B5, eB, hB1, hB2, hB3, hB4⟩ : NewV U.heap.size [.int .i64 0, .int .i64 0, .int .i64 0] (vs 12) wv := hV (12, 12) (by simp)
          have hAB := box_ne hA3 hB3
          simp only [putL, V6, V7, V8, V9, eA, eB]
          try simp only [Act.put, List.setIfInBounds_toArray, List.set_cons_zero, List.set_cons_succ]
          have hSg := hS
          refine wpAnyH_take (i := 10) (oi := { dst := _, op := _, type := _, pos := _, after := _, guard := _ }) (v := ?_) rfl (by kernel_rfl) (by kernel_rfl) (by kernel_rfl) (fun _ _ _ h => h) (Or.inl ⟨by rfl, ?_⟩) (by assumption) ?_
          rotate_left
          · intro wS hSw; (try dsimp only at hSw); go_simp; try (with_reducible rfl)
          try simp only [Act.put, List.setIfInBounds_toArray, List.set_cons_zero, List.set_cons_succ]
          clear hSg
          clear hV V6 V7 V8 V9 eA eB hHeld
          have a0 := range_cell hA3 (show [_, _, _][0]? = some (Value.int .i64 0) from rfl)
          have a1 := range_cell hA3 (show [_, _, _][1]? = some (Value.int .i64 0) from rfl)
          have a2 := range_cell hA3 (show [_, _, _][2]? = some (Value.bool false) from rfl)
          have b0 := range_cell hB3 (show [_, _, _][0]? = some (Value.int .i64 0) from rfl)
          have b1 := range_cell hB3 (show [_, _, _][1]? = some (Value.int .i64 0) from rfl)
          have b2 := range_cell hB3 (show [_, _, _][2]? = some (Value.int .i64 0) from rfl)
          have HFin := hid (fin10 (U := wv) (A := A5) (B := B5) hAB ⟨_, a0⟩ ⟨_, a1⟩ ⟨_, a2⟩ ⟨_, b0⟩ ⟨_, b1⟩ ⟨_, b2⟩ (.int .i64 v.1.1.pos) (.int .i64 v.1.1.charge) (.bool v.1.1.bolted) (.int .i64 v.1.2.1) (.int .i64 v.1.2.2.1) (.int .i64 v.1.2.2.2))
          have HA3 := hid (setLd (A := A5) (j := 2) hbV hwV hA1 (.bool v.1.1.bolted) (setLd (A := A5) (j := 1) hbV hwV hA1 (.int .i64 v.1.1.charge) (setLd (A := A5) (j := 0) hbV hwV hA1 (.int .i64 v.1.1.pos) hS)))
          have HS6 := hid (setLd (A := B5) (j := 2) hbV hwV hB1 (.int .i64 v.1.2.2.2) (setLd (A := B5) (j := 1) hbV hwV hB1 (.int .i64 v.1.2.2.1) (setLd (A := B5) (j := 0) hbV hwV hB1 (.int .i64 v.1.2.1) HA3.out)))
          clear hA3 hB3 hS
          refine wpAnyH_ready (rs := [13]) (by kernel_rfl) (by simp) ?_
          refine AllReadyH.cons (o := { dst := _, op := _, type := _, pos := _, after := _, guard := _ }) rfl (fun K hK => ?_) AllReadyH.nil
          go_simp
          refine hK.out _ _ ?_ (fun hHeld => ?_)
          · (try dsimp only); exact HA3.out
          clear hK K
          try simp only [Act.put, List.setIfInBounds_toArray, List.set_cons_zero, List.set_cons_succ]
          have c0 : World.cell? _ ⟨B5, 0, none⟩ = _ := (cs_o (x := (wv.setCell ⟨A5, 0, none⟩ (.int .i64 v.1.1.pos)).setCell ⟨A5, 1, none⟩ (.int .i64 v.1.1.charge)) (c := A5) (j := 2) (v := .bool v.1.1.bolted) (.inl (Ne.symm hAB))).trans ((cs_o (.inl (Ne.symm hAB))).trans ((cs_o (.inl (Ne.symm hAB))).trans b0))
          have c1 : World.cell? _ ⟨B5, 1, none⟩ = _ := (cs_o (x := (wv.setCell ⟨A5, 0, none⟩ (.int .i64 v.1.1.pos)).setCell ⟨A5, 1, none⟩ (.int .i64 v.1.1.charge)) (c := A5) (j := 2) (v := .bool v.1.1.bolted) (.inl (Ne.symm hAB))).trans ((cs_o (.inl (Ne.symm hAB))).trans ((cs_o (.inl (Ne.symm hAB))).trans b1))
          have c2 : World.cell? _ ⟨B5, 2, none⟩ = _ := (cs_o (x := (wv.setCell ⟨A5, 0, none⟩ (.int .i64 v.1.1.pos)).setCell ⟨A5, 1, none⟩ (.int .i64 v.1.1.charge)) (c := A5) (j := 2) (v := .bool v.1.1.bolted) (.inl (Ne.symm hAB))).trans ((cs_o (.inl (Ne.symm hAB))).trans ((cs_o (.inl (Ne.symm hAB))).trans b2))
          refine wpAnyH_ready (rs := [14]) (by kernel_rfl) (by simp) ?_
          refine AllReadyH.cons (o := { dst := _, op := _, type := _, pos := _, after := _, guard := _ }) rfl (fun K hK => ?_) AllReadyH.nil
          go_simp
          refine hK.out _ _ ?_ (fun hHeld => ?_)
          · (try dsimp only); exact HS6.out
          clear hK K
          try simp only [Act.put, List.setIfInBounds_toArray, List.set_cons_zero, List.set_cons_succ]
          refine wpAnyH_take (i := 15) (oi := { dst := _, op := _, type := _, pos := _, after := _, guard := _ }) (v := ?_) rfl (by kernel_rfl) (by kernel_rfl) (by kernel_rfl) (fun _ _ _ h => h) (Or.inl ⟨by rfl, ?_⟩) HS6.out ?_
          rotate_left
          · intro wS hSw; (try dsimp only at hSw); go_simp; try (with_reducible rfl)
          try simp only [Act.put, List.setIfInBounds_toArray, List.set_cons_zero, List.set_cons_succ]
          refine wpAnyH_done (by kernel_rfl) ?_ _
          refine NoPanic.normal ?_
          clear a0 a1 a2 b0 b1 b2 c0 c1 c2 HA3 hA4 hB4 hHeld
          generalize World.setCell (World.setCell (World.setCell (World.setCell (World.setCell (World.setCell wv _ _) _ _) _ _) _ _) _ _) _ _ = U2 at *
          obtain ⟨bl0, bl1, bl2, bm0, bm1, bm2⟩ := HFin.out
          have HD2 := hid HS6.out.1
          have hUU := HS6.out.2.1
          have al0 := (hUU.cell (p := ⟨A4, 0, none⟩) hA4U).trans AK0.out
          have al1 := (hUU.cell (p := ⟨A4, 1, none⟩) hA4U).trans AK1.out
          have al2 := (hUU.cell (p := ⟨A4, 2, none⟩) hA4U).trans AK2.out
          have am0 := (hUU.cell (p := ⟨B4, 0, none⟩) hB4U).trans BK0.out
          have am1 := (hUU.cell (p := ⟨B4, 1, none⟩) hB4U).trans BK1.out
          have am2 := (hUU.cell (p := ⟨B4, 2, none⟩) hB4U).trans BK2.out
          clear hUU HFin HS6 hAB hA1 hA2 hB1 hB2 s0 s1 s2 t0 t1 t2 t3
          go_wp2_with fail
          exact ⟨⟨k + 1, by omega, by omega, by go_num, HD2⟩, by simp [intOf]; omega⟩
        · dsimp only at hV ⊢
          have V6 : vs 46 = .tuple #[.agg #[.int .i64 v.1.1.pos, .int .i64 v.1.1.charge, .bool v.1.1.bolted], .agg #[.int .i64 v.1.2.1, .int .i64 v.1.2.2.1, .int .i64 v.1.2.2.2], .int .i64 v.2] := hV (6, 46) (by simp)
          have V7 : vs 39 = .tuple #[.agg #[.int .i64 v.1.1.pos, .int .i64 v.1.1.charge, .bool v.1.1.bolted], .agg #[.int .i64 v.1.2.1, .int .i64 v.1.2.2.1, .int .i64 v.1.2.2.2], .int .i64 v.2] := hV (7, 39) (by simp)
          have V8 : vs 47 = .agg #[.int .i64 v.1.1.pos, .int .i64 v.1.1.charge, .bool v.1.1.bolted] := hV (8, 47) (by simp)
          obtain ⟨A5, eA, hA1, hA2, hA3, hA4⟩ : NewV U.heap.size [.int .i64 0, .int .i64 0, .bool false] (vs 11) wv := hV (11, 11) (by simp)
          obtain ⟨B5, eB, hB1, hB2, hB3, hB4⟩ : NewV U.heap.size [.int .i64 0, .int .i64 0, .int .i64 0] (vs 12) wv := hV (12, 12) (by simp)
          have hAB := box_ne hA3 hB3
          simp only [putL, V6, V7, V8, eA, eB]
          try simp only [Act.put, List.setIfInBounds_toArray, List.set_cons_zero, List.set_cons_succ]
          have hSg := hS
          refine wpAnyH_take (i := 9) (oi := { dst := _, op := _, type := _, pos := _, after := _, guard := _ }) (v := ?_) rfl (by kernel_rfl) (by kernel_rfl) (by kernel_rfl) (fun _ _ _ h => h) (Or.inl ⟨by rfl, ?_⟩) (by assumption) ?_
          rotate_left
          · intro wS hSw; (try dsimp only at hSw); go_simp; try (with_reducible rfl)
          try simp only [Act.put, List.setIfInBounds_toArray, List.set_cons_zero, List.set_cons_succ]
          refine wpAnyH_take (i := 10) (oi := { dst := _, op := _, type := _, pos := _, after := _, guard := _ }) (v := ?_) rfl (by kernel_rfl) (by kernel_rfl) (by kernel_rfl) (fun _ _ _ h => h) (Or.inl ⟨by rfl, ?_⟩) (by assumption) ?_
          rotate_left
          · intro wS hSw; (try dsimp only at hSw); go_simp; try (with_reducible rfl)
          try simp only [Act.put, List.setIfInBounds_toArray, List.set_cons_zero, List.set_cons_succ]
          clear hSg
          clear hV V6 V7 V8 eA eB hHeld
          have a0 := range_cell hA3 (show [_, _, _][0]? = some (Value.int .i64 0) from rfl)
          have a1 := range_cell hA3 (show [_, _, _][1]? = some (Value.int .i64 0) from rfl)
          have a2 := range_cell hA3 (show [_, _, _][2]? = some (Value.bool false) from rfl)
          have b0 := range_cell hB3 (show [_, _, _][0]? = some (Value.int .i64 0) from rfl)
          have b1 := range_cell hB3 (show [_, _, _][1]? = some (Value.int .i64 0) from rfl)
          have b2 := range_cell hB3 (show [_, _, _][2]? = some (Value.int .i64 0) from rfl)
          have HFin := hid (fin10 (U := wv) (A := A5) (B := B5) hAB ⟨_, a0⟩ ⟨_, a1⟩ ⟨_, a2⟩ ⟨_, b0⟩ ⟨_, b1⟩ ⟨_, b2⟩ (.int .i64 v.1.1.pos) (.int .i64 v.1.1.charge) (.bool v.1.1.bolted) (.int .i64 v.1.2.1) (.int .i64 v.1.2.2.1) (.int .i64 v.1.2.2.2))
          have HA3 := hid (setLd (A := A5) (j := 2) hbV hwV hA1 (.bool v.1.1.bolted) (setLd (A := A5) (j := 1) hbV hwV hA1 (.int .i64 v.1.1.charge) (setLd (A := A5) (j := 0) hbV hwV hA1 (.int .i64 v.1.1.pos) hS)))
          have HS6 := hid (setLd (A := B5) (j := 2) hbV hwV hB1 (.int .i64 v.1.2.2.2) (setLd (A := B5) (j := 1) hbV hwV hB1 (.int .i64 v.1.2.2.1) (setLd (A := B5) (j := 0) hbV hwV hB1 (.int .i64 v.1.2.1) HA3.out)))
          clear hA3 hB3 hS
          refine wpAnyH_ready (rs := [13]) (by kernel_rfl) (by simp) ?_
          refine AllReadyH.cons (o := { dst := _, op := _, type := _, pos := _, after := _, guard := _ }) rfl (fun K hK => ?_) AllReadyH.nil
          go_simp
          refine hK.out _ _ ?_ (fun hHeld => ?_)
          · (try dsimp only); exact HA3.out
          clear hK K
          try simp only [Act.put, List.setIfInBounds_toArray, List.set_cons_zero, List.set_cons_succ]
          have c0 : World.cell? _ ⟨B5, 0, none⟩ = _ := (cs_o (x := (wv.setCell ⟨A5, 0, none⟩ (.int .i64 v.1.1.pos)).setCell ⟨A5, 1, none⟩ (.int .i64 v.1.1.charge)) (c := A5) (j := 2) (v := .bool v.1.1.bolted) (.inl (Ne.symm hAB))).trans ((cs_o (.inl (Ne.symm hAB))).trans ((cs_o (.inl (Ne.symm hAB))).trans b0))
          have c1 : World.cell? _ ⟨B5, 1, none⟩ = _ := (cs_o (x := (wv.setCell ⟨A5, 0, none⟩ (.int .i64 v.1.1.pos)).setCell ⟨A5, 1, none⟩ (.int .i64 v.1.1.charge)) (c := A5) (j := 2) (v := .bool v.1.1.bolted) (.inl (Ne.symm hAB))).trans ((cs_o (.inl (Ne.symm hAB))).trans ((cs_o (.inl (Ne.symm hAB))).trans b1))
          have c2 : World.cell? _ ⟨B5, 2, none⟩ = _ := (cs_o (x := (wv.setCell ⟨A5, 0, none⟩ (.int .i64 v.1.1.pos)).setCell ⟨A5, 1, none⟩ (.int .i64 v.1.1.charge)) (c := A5) (j := 2) (v := .bool v.1.1.bolted) (.inl (Ne.symm hAB))).trans ((cs_o (.inl (Ne.symm hAB))).trans ((cs_o (.inl (Ne.symm hAB))).trans b2))
          refine wpAnyH_ready (rs := [14]) (by kernel_rfl) (by simp) ?_
          refine AllReadyH.cons (o := { dst := _, op := _, type := _, pos := _, after := _, guard := _ }) rfl (fun K hK => ?_) AllReadyH.nil
          go_simp
          refine hK.out _ _ ?_ (fun hHeld => ?_)
          · (try dsimp only); exact HS6.out
          clear hK K
          try simp only [Act.put, List.setIfInBounds_toArray, List.set_cons_zero, List.set_cons_succ]
          refine wpAnyH_take (i := 15) (oi := { dst := _, op := _, type := _, pos := _, after := _, guard := _ }) (v := ?_) rfl (by kernel_rfl) (by kernel_rfl) (by kernel_rfl) (fun _ _ _ h => h) (Or.inl ⟨by rfl, ?_⟩) HS6.out ?_
          rotate_left
          · intro wS hSw; (try dsimp only at hSw); go_simp; try (with_reducible rfl)
          try simp only [Act.put, List.setIfInBounds_toArray, List.set_cons_zero, List.set_cons_succ]
          refine wpAnyH_done (by kernel_rfl) ?_ _
          refine NoPanic.normal ?_
          clear a0 a1 a2 b0 b1 b2 c0 c1 c2 HA3 hA4 hB4 hHeld
          generalize World.setCell (World.setCell (World.setCell (World.setCell (World.setCell (World.setCell wv _ _) _ _) _ _) _ _) _ _) _ _ = U2 at *
          obtain ⟨bl0, bl1, bl2, bm0, bm1, bm2⟩ := HFin.out
          have HD2 := hid HS6.out.1
          have hUU := HS6.out.2.1
          have al0 := (hUU.cell (p := ⟨A4, 0, none⟩) hA4U).trans AK0.out
          have al1 := (hUU.cell (p := ⟨A4, 1, none⟩) hA4U).trans AK1.out
          have al2 := (hUU.cell (p := ⟨A4, 2, none⟩) hA4U).trans AK2.out
          have am0 := (hUU.cell (p := ⟨B4, 0, none⟩) hB4U).trans BK0.out
          have am1 := (hUU.cell (p := ⟨B4, 1, none⟩) hB4U).trans BK1.out
          have am2 := (hUU.cell (p := ⟨B4, 2, none⟩) hB4U).trans BK2.out
          clear hUU HFin HS6 hAB hA1 hA2 hB1 hB2 s0 s1 s2 t0 t1 t2 t3
          go_wp2_with fail
          exact ⟨⟨k + 1, by omega, by omega, by go_num, HD2⟩, by simp [intOf]; omega⟩
      · dsimp only at hV ⊢
        have V6 : vs 35 = .tuple #[.agg #[.int .i64 v.1.1.pos, .int .i64 v.1.1.charge, .bool v.1.1.bolted], .agg #[.int .i64 v.1.2.1, .int .i64 v.1.2.2.1, .int .i64 v.1.2.2.2], .int .i64 v.2] := hV (6, 35) (by simp)
        have V7 : vs 28 = .tuple #[.agg #[.int .i64 v.1.1.pos, .int .i64 v.1.1.charge, .bool v.1.1.bolted], .agg #[.int .i64 v.1.2.1, .int .i64 v.1.2.2.1, .int .i64 v.1.2.2.2], .int .i64 v.2] := hV (7, 28) (by simp)
        have V8 : vs 36 = .agg #[.int .i64 v.1.1.pos, .int .i64 v.1.1.charge, .bool v.1.1.bolted] := hV (8, 36) (by simp)
        obtain ⟨A4, eA, hA1, hA2, hA3, hA4⟩ : NewV V.heap.size [.int .i64 0, .int .i64 0, .bool false] (vs 8) wv := hV (11, 8) (by simp)
        obtain ⟨B4, eB, hB1, hB2, hB3, hB4⟩ : NewV V.heap.size [.int .i64 0, .int .i64 0, .int .i64 0] (vs 9) wv := hV (12, 9) (by simp)
        have hAB := box_ne hA3 hB3
        simp only [putL, V6, V7, V8, eA, eB]
        try simp only [Act.put, List.setIfInBounds_toArray, List.set_cons_zero, List.set_cons_succ]
        have hSg := hS
        refine wpAnyH_take (i := 9) (oi := { dst := _, op := _, type := _, pos := _, after := _, guard := _ }) (v := ?_) rfl (by kernel_rfl) (by kernel_rfl) (by kernel_rfl) (fun _ _ _ h => h) (Or.inl ⟨by rfl, ?_⟩) (by assumption) ?_
        rotate_left
        · intro wS hSw; (try dsimp only at hSw); go_simp; try (with_reducible rfl)
        try simp only [Act.put, List.setIfInBounds_toArray, List.set_cons_zero, List.set_cons_succ]
        refine wpAnyH_take (i := 10) (oi := { dst := _, op := _, type := _, pos := _, after := _, guard := _ }) (v := ?_) rfl (by kernel_rfl) (by kernel_rfl) (by kernel_rfl) (fun _ _ _ h => h) (Or.inl ⟨by rfl, ?_⟩) (by assumption) ?_
        rotate_left
        · intro wS hSw; (try dsimp only at hSw); go_simp; try (with_reducible rfl)
        try simp only [Act.put, List.setIfInBounds_toArray, List.set_cons_zero, List.set_cons_succ]
        clear hSg
        clear hV V6 V7 V8 eA eB hHeld
        have a0 := range_cell hA3 (show [_, _, _][0]? = some (Value.int .i64 0) from rfl)
        have a1 := range_cell hA3 (show [_, _, _][1]? = some (Value.int .i64 0) from rfl)
        have a2 := range_cell hA3 (show [_, _, _][2]? = some (Value.bool false) from rfl)
        have b0 := range_cell hB3 (show [_, _, _][0]? = some (Value.int .i64 0) from rfl)
        have b1 := range_cell hB3 (show [_, _, _][1]? = some (Value.int .i64 0) from rfl)
        have b2 := range_cell hB3 (show [_, _, _][2]? = some (Value.int .i64 0) from rfl)
        have HFin := hid (fin10 (U := wv) (A := A4) (B := B4) hAB ⟨_, a0⟩ ⟨_, a1⟩ ⟨_, a2⟩ ⟨_, b0⟩ ⟨_, b1⟩ ⟨_, b2⟩ (.int .i64 v.1.1.pos) (.int .i64 v.1.1.charge) (.bool v.1.1.bolted) (.int .i64 v.1.2.1) (.int .i64 v.1.2.2.1) (.int .i64 v.1.2.2.2))
        have HA3 := hid (setLd (A := A4) (j := 2) hbV hwV hA1 (.bool v.1.1.bolted) (setLd (A := A4) (j := 1) hbV hwV hA1 (.int .i64 v.1.1.charge) (setLd (A := A4) (j := 0) hbV hwV hA1 (.int .i64 v.1.1.pos) hS)))
        have HS6 := hid (setLd (A := B4) (j := 2) hbV hwV hB1 (.int .i64 v.1.2.2.2) (setLd (A := B4) (j := 1) hbV hwV hB1 (.int .i64 v.1.2.2.1) (setLd (A := B4) (j := 0) hbV hwV hB1 (.int .i64 v.1.2.1) HA3.out)))
        clear hA3 hB3 hS
        refine wpAnyH_ready (rs := [13]) (by kernel_rfl) (by simp) ?_
        refine AllReadyH.cons (o := { dst := _, op := _, type := _, pos := _, after := _, guard := _ }) rfl (fun K hK => ?_) AllReadyH.nil
        go_simp
        refine hK.out _ _ ?_ (fun hHeld => ?_)
        · (try dsimp only); exact HA3.out
        clear hK K
        try simp only [Act.put, List.setIfInBounds_toArray, List.set_cons_zero, List.set_cons_succ]
        have c0 : World.cell? _ ⟨B4, 0, none⟩ = _ := (cs_o (x := (wv.setCell ⟨A4, 0, none⟩ (.int .i64 v.1.1.pos)).setCell ⟨A4, 1, none⟩ (.int .i64 v.1.1.charge)) (c := A4) (j := 2) (v := .bool v.1.1.bolted) (.inl (Ne.symm hAB))).trans ((cs_o (.inl (Ne.symm hAB))).trans ((cs_o (.inl (Ne.symm hAB))).trans b0))
        have c1 : World.cell? _ ⟨B4, 1, none⟩ = _ := (cs_o (x := (wv.setCell ⟨A4, 0, none⟩ (.int .i64 v.1.1.pos)).setCell ⟨A4, 1, none⟩ (.int .i64 v.1.1.charge)) (c := A4) (j := 2) (v := .bool v.1.1.bolted) (.inl (Ne.symm hAB))).trans ((cs_o (.inl (Ne.symm hAB))).trans ((cs_o (.inl (Ne.symm hAB))).trans b1))
        have c2 : World.cell? _ ⟨B4, 2, none⟩ = _ := (cs_o (x := (wv.setCell ⟨A4, 0, none⟩ (.int .i64 v.1.1.pos)).setCell ⟨A4, 1, none⟩ (.int .i64 v.1.1.charge)) (c := A4) (j := 2) (v := .bool v.1.1.bolted) (.inl (Ne.symm hAB))).trans ((cs_o (.inl (Ne.symm hAB))).trans ((cs_o (.inl (Ne.symm hAB))).trans b2))
        refine wpAnyH_ready (rs := [14]) (by kernel_rfl) (by simp) ?_
        refine AllReadyH.cons (o := { dst := _, op := _, type := _, pos := _, after := _, guard := _ }) rfl (fun K hK => ?_) AllReadyH.nil
        go_simp
        refine hK.out _ _ ?_ (fun hHeld => ?_)
        · (try dsimp only); exact HS6.out
        clear hK K
        try simp only [Act.put, List.setIfInBounds_toArray, List.set_cons_zero, List.set_cons_succ]
        refine wpAnyH_take (i := 15) (oi := { dst := _, op := _, type := _, pos := _, after := _, guard := _ }) (v := ?_) rfl (by kernel_rfl) (by kernel_rfl) (by kernel_rfl) (fun _ _ _ h => h) (Or.inl ⟨by rfl, ?_⟩) HS6.out ?_
        rotate_left
        · intro wS hSw; (try dsimp only at hSw); go_simp; try (with_reducible rfl)
        try simp only [Act.put, List.setIfInBounds_toArray, List.set_cons_zero, List.set_cons_succ]
        refine wpAnyH_done (by kernel_rfl) ?_ _
        refine NoPanic.normal ?_
        clear a0 a1 a2 b0 b1 b2 c0 c1 c2 HA3 hA4 hB4 hHeld
        generalize World.setCell (World.setCell (World.setCell (World.setCell (World.setCell (World.setCell wv _ _) _ _) _ _) _ _) _ _) _ _ = U at *
        obtain ⟨ak0, ak1, ak2, bk0, bk1, bk2⟩ := HFin.out
        have HD1 := hid HS6.out.1
        obtain ⟨-, hVU, s0, s1, s2, t0, t1, t2, t3⟩ := HS6.out
        have hA4U : A4 < U.heap.size := World.block_lt_of_cell? U _ ak0
        have hB4U : B4 < U.heap.size := World.block_lt_of_cell? U _ bk0
        have hbU : b < U.heap.size := Nat.lt_of_lt_of_le hbV hVU.size
        have hwU : w.heap.size + 1 < U.heap.size := Nat.lt_of_lt_of_le hwV hVU.size
        have AK0 := hid ak0; have AK1 := hid ak1; have AK2 := hid ak2; have BK0 := hid bk0; have BK1 := hid bk1; have BK2 := hid bk2
        clear hVU HFin HS6 hbV hwV hAB hA1 hA2 hB1 hB2 ak0 ak1 ak2 bk0 bk1 bk2
        have hbV := hbU
        have hwV := hwU
        clear hbU hwU
        go_upto_region 5 with fail
        refine wp_region_noPanic ?_
        refine wp_region_held_drew (S := (fun w' => DrW w g p s w' ∧ Below U.heap.size U w' ∧ w'.cell? ⟨w.heap.size + 1, 0, none⟩ = some (.int .i64 s.pos) ∧ w'.cell? ⟨w.heap.size + 1, 1, none⟩ = some (.int .i64 s.charge) ∧ w'.cell? ⟨w.heap.size + 1, 2, none⟩ = some (.bool s.bolted) ∧ w'.cell? ⟨b, o + k * 4, none⟩ = some (.int .i64 t.order) ∧ w'.cell? ⟨b, o + k * 4 + 1, none⟩ = some (.bool t.power) ∧ w'.cell? ⟨b, o + k * 4 + 2, none⟩ = some (.int .i64 t.outer) ∧ w'.cell? ⟨b, o + k * 4 + 3, none⟩ = some (.int .i64 t.inner))) (by kernel_rfl) ?_ (fun hHeld => ?_)
        · exact ⟨HD1.out.drew, (Below.refl _ _).drew, by simpa using s0, by simpa using s1, by simpa using s2, by simpa using t0, by simpa using t1, by simpa using t2, by simpa using t3⟩
        refine wpAnyH_take (i := 0) (oi := { dst := _, op := _, type := _, pos := _, after := _, guard := _ }) (v := .agg (gtL g p).toArray) rfl (by kernel_rfl) (by kernel_rfl) (by kernel_rfl) (fun _ _ _ h => h) (yieldsIf_load_mid (by rfl) 25 _ rfl w.heap.size 0 rfl (gtL g p) _ (fun _ hS => hS.1.rows) Tryz.underlying25 rfl (by kernel_rfl)) (by assumption) ?_
        try simp only [Act.put, List.setIfInBounds_toArray, List.set_cons_zero, List.set_cons_succ]
        refine wpAnyH_take (i := 1) (oi := { dst := _, op := _, type := _, pos := _, after := _, guard := _ }) (v := ?_) rfl (by kernel_rfl) (by kernel_rfl) (by kernel_rfl) (fun _ _ _ h => h) (Or.inl ⟨by rfl, ?_⟩) (by assumption) ?_
        rotate_left
        · intro wS hSw; (try dsimp only at hSw); go_simp; try (with_reducible rfl)
        try simp only [Act.put, List.setIfInBounds_toArray, List.set_cons_zero, List.set_cons_succ]
        refine wpAnyH_take (i := 2) (oi := { dst := _, op := _, type := _, pos := _, after := _, guard := _ }) (v := ?_) rfl (by kernel_rfl) (by kernel_rfl) (by kernel_rfl) (fun _ _ _ h => h) (Or.inl ⟨by rfl, ?_⟩) (by assumption) ?_
        rotate_left
        · intro wS hSw; (try dsimp only at hSw); go_simp; try (with_reducible rfl)
        try simp only [Act.put, List.setIfInBounds_toArray, List.set_cons_zero, List.set_cons_succ]
        refine wpAnyH_take (i := 3) (oi := { dst := _, op := _, type := _, pos := _, after := _, guard := _ }) (v := ?_) rfl (by kernel_rfl) (by kernel_rfl) (by kernel_rfl) (fun _ _ _ h => h) (Or.inl ⟨by rfl, ?_⟩) (by assumption) ?_
        rotate_left
        · intro wS hSw; (try dsimp only at hSw); go_simp; try (with_reducible rfl)
        try simp only [Act.put, List.setIfInBounds_toArray, List.set_cons_zero, List.set_cons_succ]
        refine wpAnyH_take (i := 4) (oi := { dst := _, op := _, type := _, pos := _, after := _, guard := _ }) (v := ?_) rfl (by kernel_rfl) (by kernel_rfl) (by kernel_rfl) (fun _ _ _ h => h) (Or.inl ⟨by rfl, ?_⟩) (by assumption) ?_
        rotate_left
        · intro wS hSw; (try dsimp only at hSw); go_simp; try (with_reducible rfl)
        try simp only [Act.put, List.setIfInBounds_toArray, List.set_cons_zero, List.set_cons_succ]
        refine wpAnyH_take (i := 5) (oi := { dst := _, op := _, type := _, pos := _, after := _, guard := _ }) (v := ?_) rfl (by kernel_rfl) (by kernel_rfl) (by kernel_rfl) (fun _ _ _ h => h) (Or.inl ⟨by rfl, ?_⟩) (by assumption) ?_
        rotate_left
        · intro wS hSw; (try dsimp only at hSw); go_simp; try (with_reducible rfl)
        try simp only [Act.put, List.setIfInBounds_toArray, List.set_cons_zero, List.set_cons_succ]
        refine wpAnyH_partXAlts (lawV U.heap.size v) [9, 10] #[true, true, true, true, true, true, true, true, true, true, true, true, true, false, false, false] 88 7 3 rfl rfl (by decide +kernel) (by decide +kernel) (by kernel_rfl) (by kernel_rfl) (by decide +kernel) (by decide +kernel) (lawV_stable _ _) (by assumption) (by decide +kernel) (fun i o ho hd hd1 d a wv hS hI hall => ?_) [(#[true, true, true, true, true, true, true, true, true, true, true, true, true, false, false, false], [(6, 46), (7, 39), (8, 47), (9, 48), (10, 49), (11, 11), (12, 12)], 0), (#[true, true, true, true, true, true, true, true, true, false, true, true, true, false, false, false], [(6, 46), (7, 39), (8, 47), (10, 49), (11, 11), (12, 12)], 1), (#[true, true, true, true, true, true, true, true, true, true, false, true, true, false, false, false], [(6, 46), (7, 39), (8, 47), (9, 48), (11, 11), (12, 12)], 1), (#[true, true, true, true, true, true, true, true, true, false, false, true, true, false, false, false], [(6, 46), (7, 39), (8, 47), (11, 11), (12, 12)], 2)] (fun b => by rcases h9 : b 9 with _ | _ <;> rcases h10 : b 10 with _ | _ <;> simp [maskD, h9, h10]) (by decide +kernel) (fun alt halt vs wv hS hV => ?_)
        · have hm := todo_mem (l := [6, 7, 8, 9, 10, 11, 12, 13, 14, 15]) (by decide +kernel) ho hd
          simp only [List.mem_cons, List.not_mem_nil, or_false] at hm
          rcases hm with rfl | rfl | rfl | rfl | rfl | rfl | rfl | rfl | rfl | rfl
          · injection ho with ho
            subst ho
            have e40 := hI.old (t := 40) (by decide +kernel) rfl
            have e41 := hI.old (t := 41) (by decide +kernel) rfl
            have e45 := hI.old (t := 45) (by decide +kernel) rfl
            refine wp_callF (F := 9) (args := #[.agg (gtL g p).toArray, .agg #[.int .i64 s.pos, .int .i64 s.charge, .bool s.bolted], .agg #[.int .i64 t.order, .bool t.power, .int .i64 t.outer, .int .i64 t.inner]]) (by simp [execOp, go_sem, e40, e41, e45]) ?_
            refine (HRst.out _ hS.1.below).mono ?_
            rintro e w' ⟨rfl, hb⟩
            exact ⟨_, rfl, _, rfl, rfl, keepLd hbV hb hS, hb⟩
          · injection ho with ho
            subst ho
            obtain ⟨v6, e6, V6⟩ := hI.new (i := 6) (t := 46) rfl (by decide +kernel) (hall ⟨6, .data⟩ (by simp) rfl) rfl
            obtain rfl : v6 = .tuple #[.agg #[.int .i64 v.1.1.pos, .int .i64 v.1.1.charge, .bool v.1.1.bolted], .agg #[.int .i64 v.1.2.1, .int .i64 v.1.2.2.1, .int .i64 v.1.2.2.2], .int .i64 v.2] := V6
            refine wp_valF (v := .tuple #[.agg #[.int .i64 v.1.1.pos, .int .i64 v.1.1.charge, .bool v.1.1.bolted], .agg #[.int .i64 v.1.2.1, .int .i64 v.1.2.2.1, .int .i64 v.1.2.2.2], .int .i64 v.2]) (w' := wv) (by simp [execOp, go_sem, e6]) ?_
            exact ⟨_, rfl, rfl, hS, Below.refl _ _⟩
          · injection ho with ho
            subst ho
            obtain ⟨v7, e7, V7⟩ := hI.new (i := 7) (t := 39) rfl (by decide +kernel) (hall ⟨7, .data⟩ (by simp) rfl) rfl
            obtain rfl : v7 = .tuple #[.agg #[.int .i64 v.1.1.pos, .int .i64 v.1.1.charge, .bool v.1.1.bolted], .agg #[.int .i64 v.1.2.1, .int .i64 v.1.2.2.1, .int .i64 v.1.2.2.2], .int .i64 v.2] := V7
            refine wp_valF (v := .agg #[.int .i64 v.1.1.pos, .int .i64 v.1.1.charge, .bool v.1.1.bolted]) (w' := wv) (by simp [execOp, go_sem, e7]) ?_
            exact ⟨_, rfl, rfl, hS, Below.refl _ _⟩
          · injection ho with ho
            subst ho
            obtain ⟨v7, e7, V7⟩ := hI.new (i := 7) (t := 39) rfl (by decide +kernel) (hall ⟨7, .data⟩ (by simp) rfl) rfl
            obtain rfl : v7 = .tuple #[.agg #[.int .i64 v.1.1.pos, .int .i64 v.1.1.charge, .bool v.1.1.bolted], .agg #[.int .i64 v.1.2.1, .int .i64 v.1.2.2.1, .int .i64 v.1.2.2.2], .int .i64 v.2] := V7
            refine wp_valF (v := .agg #[.int .i64 v.1.2.1, .int .i64 v.1.2.2.1, .int .i64 v.1.2.2.2]) (w' := wv) (by simp [execOp, go_sem, e7]) ?_
            exact ⟨_, rfl, rfl, hS, Below.refl _ _⟩
          · injection ho with ho
            subst ho
            obtain ⟨v7, e7, V7⟩ := hI.new (i := 7) (t := 39) rfl (by decide +kernel) (hall ⟨7, .data⟩ (by simp) rfl) rfl
            obtain rfl : v7 = .tuple #[.agg #[.int .i64 v.1.1.pos, .int .i64 v.1.1.charge, .bool v.1.1.bolted], .agg #[.int .i64 v.1.2.1, .int .i64 v.1.2.2.1, .int .i64 v.1.2.2.2], .int .i64 v.2] := V7
            refine wp_valF (v := .int .i64 v.2) (w' := wv) (by simp [execOp, go_sem, e7]) ?_
            exact ⟨_, rfl, rfl, hS, Below.refl _ _⟩
          · injection ho with ho
            subst ho
            refine wp_valF (v := .pointer (some ⟨wv.heap.size, 0, none⟩)) (w' := wv.alloc (.cells #[.int .i64 0, .int .i64 0, .bool false] 27)) (by simp [execOp, go_sem]) ?_
            have hb : Below wv.heap.size wv (wv.alloc (.cells #[.int .i64 0, .int .i64 0, .bool false] 27)) := (Below.refl _ _).alloc (Nat.le_refl _) _
            exact ⟨_, rfl, NewV.fresh _ _ _ _ hS.2.1.size, keepLd hbV hb hS, hb⟩
          · injection ho with ho
            subst ho
            refine wp_valF (v := .pointer (some ⟨wv.heap.size, 0, none⟩)) (w' := wv.alloc (.cells #[.int .i64 0, .int .i64 0, .int .i64 0] 31)) (by simp [execOp, go_sem]) ?_
            have hb : Below wv.heap.size wv (wv.alloc (.cells #[.int .i64 0, .int .i64 0, .int .i64 0] 31)) := (Below.refl _ _).alloc (Nat.le_refl _) _
            exact ⟨_, rfl, NewV.fresh _ _ _ _ hS.2.1.size, keepLd hbV hb hS, hb⟩
          · exact absurd hd1 (by decide)
          · exact absurd hd1 (by decide)
          · exact absurd hd1 (by decide)
        simp only [List.mem_cons, List.not_mem_nil, or_false] at halt
        rcases halt with rfl | rfl | rfl | rfl
        · dsimp only at hV ⊢
          have V6 : vs 46 = .tuple #[.agg #[.int .i64 v.1.1.pos, .int .i64 v.1.1.charge, .bool v.1.1.bolted], .agg #[.int .i64 v.1.2.1, .int .i64 v.1.2.2.1, .int .i64 v.1.2.2.2], .int .i64 v.2] := hV (6, 46) (by simp)
          have V7 : vs 39 = .tuple #[.agg #[.int .i64 v.1.1.pos, .int .i64 v.1.1.charge, .bool v.1.1.bolted], .agg #[.int .i64 v.1.2.1, .int .i64 v.1.2.2.1, .int .i64 v.1.2.2.2], .int .i64 v.2] := hV (7, 39) (by simp)
          have V8 : vs 47 = .agg #[.int .i64 v.1.1.pos, .int .i64 v.1.1.charge, .bool v.1.1.bolted] := hV (8, 47) (by simp)
          have V9 : vs 48 = .agg #[.int .i64 v.1.2.1, .int .i64 v.1.2.2.1, .int .i64 v.1.2.2.2] := hV (9, 48) (by simp)
          have V10 : vs 49 = .int .i64 v.2 := hV (10, 49) (by simp)
          obtain ⟨A5, eA, hA1, hA2, hA3, hA4⟩ : NewV U.heap.size [.int .i64 0, .int .i64 0, .bool false] (vs 11) wv := hV (11, 11) (by simp)
          obtain ⟨B5, eB, hB1, hB2, hB3, hB4⟩ : NewV U.heap.size [.int .i64 0, .int .i64 0, .int .i64 0] (vs 12) wv := hV (12, 12) (by simp)
          have hAB := box_ne hA3 hB3
          simp only [putL, V6, V7, V8, V9, V10, eA, eB]
          try simp only [Act.put, List.setIfInBounds_toArray, List.set_cons_zero, List.set_cons_succ]
          have hSg := hS
          clear hSg
          clear hV V6 V7 V8 V9 V10 eA eB hHeld
          have a0 := range_cell hA3 (show [_, _, _][0]? = some (Value.int .i64 0) from rfl)
          have a1 := range_cell hA3 (show [_, _, _][1]? = some (Value.int .i64 0) from rfl)
          have a2 := range_cell hA3 (show [_, _, _][2]? = some (Value.bool false) from rfl)
          have b0 := range_cell hB3 (show [_, _, _][0]? = some (Value.int .i64 0) from rfl)
          have b1 := range_cell hB3 (show [_, _, _][1]? = some (Value.int .i64 0) from rfl)
          have b2 := range_cell hB3 (show [_, _, _][2]? = some (Value.int .i64 0) from rfl)
          have HFin := hid (fin10 (U := wv) (A := A5) (B := B5) hAB ⟨_, a0⟩ ⟨_, a1⟩ ⟨_, a2⟩ ⟨_, b0⟩ ⟨_, b1⟩ ⟨_, b2⟩ (.int .i64 v.1.1.pos) (.int .i64 v.1.1.charge) (.bool v.1.1.bolted) (.int .i64 v.1.2.1) (.int .i64 v.1.2.2.1) (.int .i64 v.1.2.2.2))
          have HA3 := hid (setLd (A := A5) (j := 2) hbV hwV hA1 (.bool v.1.1.bolted) (setLd (A := A5) (j := 1) hbV hwV hA1 (.int .i64 v.1.1.charge) (setLd (A := A5) (j := 0) hbV hwV hA1 (.int .i64 v.1.1.pos) hS)))
          have HS6 := hid (setLd (A := B5) (j := 2) hbV hwV hB1 (.int .i64 v.1.2.2.2) (setLd (A := B5) (j := 1) hbV hwV hB1 (.int .i64 v.1.2.2.1) (setLd (A := B5) (j := 0) hbV hwV hB1 (.int .i64 v.1.2.1) HA3.out)))
          clear hA3 hB3 hS
          refine wpAnyH_ready (rs := [13]) (by kernel_rfl) (by simp) ?_
          refine AllReadyH.cons (o := { dst := _, op := _, type := _, pos := _, after := _, guard := _ }) rfl (fun K hK => ?_) AllReadyH.nil
          go_simp
          refine hK.out _ _ ?_ (fun hHeld => ?_)
          · (try dsimp only); exact HA3.out
          clear hK K
          try simp only [Act.put, List.setIfInBounds_toArray, List.set_cons_zero, List.set_cons_succ]
          have c0 : World.cell? _ ⟨B5, 0, none⟩ = _ := (cs_o (x := (wv.setCell ⟨A5, 0, none⟩ (.int .i64 v.1.1.pos)).setCell ⟨A5, 1, none⟩ (.int .i64 v.1.1.charge)) (c := A5) (j := 2) (v := .bool v.1.1.bolted) (.inl (Ne.symm hAB))).trans ((cs_o (.inl (Ne.symm hAB))).trans ((cs_o (.inl (Ne.symm hAB))).trans b0))
          have c1 : World.cell? _ ⟨B5, 1, none⟩ = _ := (cs_o (x := (wv.setCell ⟨A5, 0, none⟩ (.int .i64 v.1.1.pos)).setCell ⟨A5, 1, none⟩ (.int .i64 v.1.1.charge)) (c := A5) (j := 2) (v := .bool v.1.1.bolted) (.inl (Ne.symm hAB))).trans ((cs_o (.inl (Ne.symm hAB))).trans ((cs_o (.inl (Ne.symm hAB))).trans b1))
          have c2 : World.cell? _ ⟨B5, 2, none⟩ = _ := (cs_o (x := (wv.setCell ⟨A5, 0, none⟩ (.int .i64 v.1.1.pos)).setCell ⟨A5, 1, none⟩ (.int .i64 v.1.1.charge)) (c := A5) (j := 2) (v := .bool v.1.1.bolted) (.inl (Ne.symm hAB))).trans ((cs_o (.inl (Ne.symm hAB))).trans ((cs_o (.inl (Ne.symm hAB))).trans b2))
          refine wpAnyH_ready (rs := [14]) (by kernel_rfl) (by simp) ?_
          refine AllReadyH.cons (o := { dst := _, op := _, type := _, pos := _, after := _, guard := _ }) rfl (fun K hK => ?_) AllReadyH.nil
          go_simp
          refine hK.out _ _ ?_ (fun hHeld => ?_)
          · (try dsimp only); exact HS6.out
          clear hK K
          try simp only [Act.put, List.setIfInBounds_toArray, List.set_cons_zero, List.set_cons_succ]
          refine wpAnyH_take (i := 15) (oi := { dst := _, op := _, type := _, pos := _, after := _, guard := _ }) (v := ?_) rfl (by kernel_rfl) (by kernel_rfl) (by kernel_rfl) (fun _ _ _ h => h) (Or.inl ⟨by rfl, ?_⟩) HS6.out ?_
          rotate_left
          · intro wS hSw; (try dsimp only at hSw); go_simp; try (with_reducible rfl)
          try simp only [Act.put, List.setIfInBounds_toArray, List.set_cons_zero, List.set_cons_succ]
          refine wpAnyH_done (by kernel_rfl) ?_ _
          refine NoPanic.normal ?_
          clear a0 a1 a2 b0 b1 b2 c0 c1 c2 HA3 hA4 hB4 hHeld
          generalize World.setCell (World.setCell (World.setCell (World.setCell (World.setCell (World.setCell wv _ _) _ _) _ _) _ _) _ _) _ _ = U2 at *
          obtain ⟨bl0, bl1, bl2, bm0, bm1, bm2⟩ := HFin.out
          have HD2 := hid HS6.out.1
          have hUU := HS6.out.2.1
          have al0 := (hUU.cell (p := ⟨A4, 0, none⟩) hA4U).trans AK0.out
          have al1 := (hUU.cell (p := ⟨A4, 1, none⟩) hA4U).trans AK1.out
          have al2 := (hUU.cell (p := ⟨A4, 2, none⟩) hA4U).trans AK2.out
          have am0 := (hUU.cell (p := ⟨B4, 0, none⟩) hB4U).trans BK0.out
          have am1 := (hUU.cell (p := ⟨B4, 1, none⟩) hB4U).trans BK1.out
          have am2 := (hUU.cell (p := ⟨B4, 2, none⟩) hB4U).trans BK2.out
          clear hUU HFin HS6 hAB hA1 hA2 hB1 hB2 s0 s1 s2 t0 t1 t2 t3
          go_wp2_with fail
          exact ⟨⟨k + 1, by omega, by omega, by go_num, HD2⟩, by simp [intOf]; omega⟩
        · dsimp only at hV ⊢
          have V6 : vs 46 = .tuple #[.agg #[.int .i64 v.1.1.pos, .int .i64 v.1.1.charge, .bool v.1.1.bolted], .agg #[.int .i64 v.1.2.1, .int .i64 v.1.2.2.1, .int .i64 v.1.2.2.2], .int .i64 v.2] := hV (6, 46) (by simp)
          have V7 : vs 39 = .tuple #[.agg #[.int .i64 v.1.1.pos, .int .i64 v.1.1.charge, .bool v.1.1.bolted], .agg #[.int .i64 v.1.2.1, .int .i64 v.1.2.2.1, .int .i64 v.1.2.2.2], .int .i64 v.2] := hV (7, 39) (by simp)
          have V8 : vs 47 = .agg #[.int .i64 v.1.1.pos, .int .i64 v.1.1.charge, .bool v.1.1.bolted] := hV (8, 47) (by simp)
          have V10 : vs 49 = .int .i64 v.2 := hV (10, 49) (by simp)
          obtain ⟨A5, eA, hA1, hA2, hA3, hA4⟩ : NewV U.heap.size [.int .i64 0, .int .i64 0, .bool false] (vs 11) wv := hV (11, 11) (by simp)
          obtain ⟨B5, eB, hB1, hB2, hB3, hB4⟩ : NewV U.heap.size [.int .i64 0, .int .i64 0, .int .i64 0] (vs 12) wv := hV (12, 12) (by simp)
          have hAB := box_ne hA3 hB3
          simp only [putL, V6, V7, V8, V10, eA, eB]
          try simp only [Act.put, List.setIfInBounds_toArray, List.set_cons_zero, List.set_cons_succ]
          have hSg := hS
          refine wpAnyH_take (i := 9) (oi := { dst := _, op := _, type := _, pos := _, after := _, guard := _ }) (v := ?_) rfl (by kernel_rfl) (by kernel_rfl) (by kernel_rfl) (fun _ _ _ h => h) (Or.inl ⟨by rfl, ?_⟩) (by assumption) ?_
          rotate_left
          · intro wS hSw; (try dsimp only at hSw); go_simp; try (with_reducible rfl)
          try simp only [Act.put, List.setIfInBounds_toArray, List.set_cons_zero, List.set_cons_succ]
          clear hSg
          clear hV V6 V7 V8 V10 eA eB hHeld
          have a0 := range_cell hA3 (show [_, _, _][0]? = some (Value.int .i64 0) from rfl)
          have a1 := range_cell hA3 (show [_, _, _][1]? = some (Value.int .i64 0) from rfl)
          have a2 := range_cell hA3 (show [_, _, _][2]? = some (Value.bool false) from rfl)
          have b0 := range_cell hB3 (show [_, _, _][0]? = some (Value.int .i64 0) from rfl)
          have b1 := range_cell hB3 (show [_, _, _][1]? = some (Value.int .i64 0) from rfl)
          have b2 := range_cell hB3 (show [_, _, _][2]? = some (Value.int .i64 0) from rfl)
          have HFin := hid (fin10 (U := wv) (A := A5) (B := B5) hAB ⟨_, a0⟩ ⟨_, a1⟩ ⟨_, a2⟩ ⟨_, b0⟩ ⟨_, b1⟩ ⟨_, b2⟩ (.int .i64 v.1.1.pos) (.int .i64 v.1.1.charge) (.bool v.1.1.bolted) (.int .i64 v.1.2.1) (.int .i64 v.1.2.2.1) (.int .i64 v.1.2.2.2))
          have HA3 := hid (setLd (A := A5) (j := 2) hbV hwV hA1 (.bool v.1.1.bolted) (setLd (A := A5) (j := 1) hbV hwV hA1 (.int .i64 v.1.1.charge) (setLd (A := A5) (j := 0) hbV hwV hA1 (.int .i64 v.1.1.pos) hS)))
          have HS6 := hid (setLd (A := B5) (j := 2) hbV hwV hB1 (.int .i64 v.1.2.2.2) (setLd (A := B5) (j := 1) hbV hwV hB1 (.int .i64 v.1.2.2.1) (setLd (A := B5) (j := 0) hbV hwV hB1 (.int .i64 v.1.2.1) HA3.out)))
          clear hA3 hB3 hS
          refine wpAnyH_ready (rs := [13]) (by kernel_rfl) (by simp) ?_
          refine AllReadyH.cons (o := { dst := _, op := _, type := _, pos := _, after := _, guard := _ }) rfl (fun K hK => ?_) AllReadyH.nil
          go_simp
          refine hK.out _ _ ?_ (fun hHeld => ?_)
          · (try dsimp only); exact HA3.out
          clear hK K
          try simp only [Act.put, List.setIfInBounds_toArray, List.set_cons_zero, List.set_cons_succ]
          have c0 : World.cell? _ ⟨B5, 0, none⟩ = _ := (cs_o (x := (wv.setCell ⟨A5, 0, none⟩ (.int .i64 v.1.1.pos)).setCell ⟨A5, 1, none⟩ (.int .i64 v.1.1.charge)) (c := A5) (j := 2) (v := .bool v.1.1.bolted) (.inl (Ne.symm hAB))).trans ((cs_o (.inl (Ne.symm hAB))).trans ((cs_o (.inl (Ne.symm hAB))).trans b0))
          have c1 : World.cell? _ ⟨B5, 1, none⟩ = _ := (cs_o (x := (wv.setCell ⟨A5, 0, none⟩ (.int .i64 v.1.1.pos)).setCell ⟨A5, 1, none⟩ (.int .i64 v.1.1.charge)) (c := A5) (j := 2) (v := .bool v.1.1.bolted) (.inl (Ne.symm hAB))).trans ((cs_o (.inl (Ne.symm hAB))).trans ((cs_o (.inl (Ne.symm hAB))).trans b1))
          have c2 : World.cell? _ ⟨B5, 2, none⟩ = _ := (cs_o (x := (wv.setCell ⟨A5, 0, none⟩ (.int .i64 v.1.1.pos)).setCell ⟨A5, 1, none⟩ (.int .i64 v.1.1.charge)) (c := A5) (j := 2) (v := .bool v.1.1.bolted) (.inl (Ne.symm hAB))).trans ((cs_o (.inl (Ne.symm hAB))).trans ((cs_o (.inl (Ne.symm hAB))).trans b2))
          refine wpAnyH_ready (rs := [14]) (by kernel_rfl) (by simp) ?_
          refine AllReadyH.cons (o := { dst := _, op := _, type := _, pos := _, after := _, guard := _ }) rfl (fun K hK => ?_) AllReadyH.nil
          go_simp
          refine hK.out _ _ ?_ (fun hHeld => ?_)
          · (try dsimp only); exact HS6.out
          clear hK K
          try simp only [Act.put, List.setIfInBounds_toArray, List.set_cons_zero, List.set_cons_succ]
          refine wpAnyH_take (i := 15) (oi := { dst := _, op := _, type := _, pos := _, after := _, guard := _ }) (v := ?_) rfl (by kernel_rfl) (by kernel_rfl) (by kernel_rfl) (fun _ _ _ h => h) (Or.inl ⟨by rfl, ?_⟩) HS6.out ?_
          rotate_left
          · intro wS hSw; (try dsimp only at hSw); go_simp; try (with_reducible rfl)
          try simp only [Act.put, List.setIfInBounds_toArray, List.set_cons_zero, List.set_cons_succ]
          refine wpAnyH_done (by kernel_rfl) ?_ _
          refine NoPanic.normal ?_
          clear a0 a1 a2 b0 b1 b2 c0 c1 c2 HA3 hA4 hB4 hHeld
          generalize World.setCell (World.setCell (World.setCell (World.setCell (World.setCell (World.setCell wv _ _) _ _) _ _) _ _) _ _) _ _ = U2 at *
          obtain ⟨bl0, bl1, bl2, bm0, bm1, bm2⟩ := HFin.out
          have HD2 := hid HS6.out.1
          have hUU := HS6.out.2.1
          have al0 := (hUU.cell (p := ⟨A4, 0, none⟩) hA4U).trans AK0.out
          have al1 := (hUU.cell (p := ⟨A4, 1, none⟩) hA4U).trans AK1.out
          have al2 := (hUU.cell (p := ⟨A4, 2, none⟩) hA4U).trans AK2.out
          have am0 := (hUU.cell (p := ⟨B4, 0, none⟩) hB4U).trans BK0.out
          have am1 := (hUU.cell (p := ⟨B4, 1, none⟩) hB4U).trans BK1.out
          have am2 := (hUU.cell (p := ⟨B4, 2, none⟩) hB4U).trans BK2.out
          clear hUU HFin HS6 hAB hA1 hA2 hB1 hB2 s0 s1 s2 t0 t1 t2 t3
          go_wp2_with fail
          exact ⟨⟨k + 1, by omega, by omega, by go_num, HD2⟩, by simp [intOf]; omega⟩
        · dsimp only at hV ⊢
          have V6 : vs 46 = .tuple #[.agg #[.int .i64 v.1.1.pos, .int .i64 v.1.1.charge, .bool v.1.1.bolted], .agg #[.int .i64 v.1.2.1, .int .i64 v.1.2.2.1, .int .i64 v.1.2.2.2], .int .i64 v.2] := hV (6, 46) (by simp)
          have V7 : vs 39 = .tuple #[.agg #[.int .i64 v.1.1.pos, .int .i64 v.1.1.charge, .bool v.1.1.bolted], .agg #[.int .i64 v.1.2.1, .int .i64 v.1.2.2.1, .int .i64 v.1.2.2.2], .int .i64 v.2] := hV (7, 39) (by simp)
          have V8 : vs 47 = .agg #[.int .i64 v.1.1.pos, .int .i64 v.1.1.charge, .bool v.1.1.bolted] := hV (8, 47) (by simp)
          have V9 : vs 48 = .agg #[.int .i64 v.1.2.1, .int .i64 v.1.2.2.1, .int .i64 v.1.2.2.2] := hV (9, 48) (by simp)
          obtain ⟨A5, eA, hA1, hA2, hA3, hA4⟩ : NewV U.heap.size [.int .i64 0, .int .i64 0, .bool false] (vs 11) wv := hV (11, 11) (by simp)
          obtain ⟨B5, eB, hB1, hB2, hB3, hB4⟩ : NewV U.heap.size [.int .i64 0, .int .i64 0, .int .i64 0] (vs 12) wv := hV (12, 12) (by simp)
          have hAB := box_ne hA3 hB3
          simp only [putL, V6, V7, V8, V9, eA, eB]
          try simp only [Act.put, List.setIfInBounds_toArray, List.set_cons_zero, List.set_cons_succ]
          have hSg := hS
          refine wpAnyH_take (i := 10) (oi := { dst := _, op := _, type := _, pos := _, after := _, guard := _ }) (v := ?_) rfl (by kernel_rfl) (by kernel_rfl) (by kernel_rfl) (fun _ _ _ h => h) (Or.inl ⟨by rfl, ?_⟩) (by assumption) ?_
          rotate_left
          · intro wS hSw; (try dsimp only at hSw); go_simp; try (with_reducible rfl)
          try simp only [Act.put, List.setIfInBounds_toArray, List.set_cons_zero, List.set_cons_succ]
          clear hSg
          clear hV V6 V7 V8 V9 eA eB hHeld
          have a0 := range_cell hA3 (show [_, _, _][0]? = some (Value.int .i64 0) from rfl)
          have a1 := range_cell hA3 (show [_, _, _][1]? = some (Value.int .i64 0) from rfl)
          have a2 := range_cell hA3 (show [_, _, _][2]? = some (Value.bool false) from rfl)
          have b0 := range_cell hB3 (show [_, _, _][0]? = some (Value.int .i64 0) from rfl)
          have b1 := range_cell hB3 (show [_, _, _][1]? = some (Value.int .i64 0) from rfl)
          have b2 := range_cell hB3 (show [_, _, _][2]? = some (Value.int .i64 0) from rfl)
          have HFin := hid (fin10 (U := wv) (A := A5) (B := B5) hAB ⟨_, a0⟩ ⟨_, a1⟩ ⟨_, a2⟩ ⟨_, b0⟩ ⟨_, b1⟩ ⟨_, b2⟩ (.int .i64 v.1.1.pos) (.int .i64 v.1.1.charge) (.bool v.1.1.bolted) (.int .i64 v.1.2.1) (.int .i64 v.1.2.2.1) (.int .i64 v.1.2.2.2))
          have HA3 := hid (setLd (A := A5) (j := 2) hbV hwV hA1 (.bool v.1.1.bolted) (setLd (A := A5) (j := 1) hbV hwV hA1 (.int .i64 v.1.1.charge) (setLd (A := A5) (j := 0) hbV hwV hA1 (.int .i64 v.1.1.pos) hS)))
          have HS6 := hid (setLd (A := B5) (j := 2) hbV hwV hB1 (.int .i64 v.1.2.2.2) (setLd (A := B5) (j := 1) hbV hwV hB1 (.int .i64 v.1.2.2.1) (setLd (A := B5) (j := 0) hbV hwV hB1 (.int .i64 v.1.2.1) HA3.out)))
          clear hA3 hB3 hS
          refine wpAnyH_ready (rs := [13]) (by kernel_rfl) (by simp) ?_
          refine AllReadyH.cons (o := { dst := _, op := _, type := _, pos := _, after := _, guard := _ }) rfl (fun K hK => ?_) AllReadyH.nil
          go_simp
          refine hK.out _ _ ?_ (fun hHeld => ?_)
          · (try dsimp only); exact HA3.out
          clear hK K
          try simp only [Act.put, List.setIfInBounds_toArray, List.set_cons_zero, List.set_cons_succ]
          have c0 : World.cell? _ ⟨B5, 0, none⟩ = _ := (cs_o (x := (wv.setCell ⟨A5, 0, none⟩ (.int .i64 v.1.1.pos)).setCell ⟨A5, 1, none⟩ (.int .i64 v.1.1.charge)) (c := A5) (j := 2) (v := .bool v.1.1.bolted) (.inl (Ne.symm hAB))).trans ((cs_o (.inl (Ne.symm hAB))).trans ((cs_o (.inl (Ne.symm hAB))).trans b0))
          have c1 : World.cell? _ ⟨B5, 1, none⟩ = _ := (cs_o (x := (wv.setCell ⟨A5, 0, none⟩ (.int .i64 v.1.1.pos)).setCell ⟨A5, 1, none⟩ (.int .i64 v.1.1.charge)) (c := A5) (j := 2) (v := .bool v.1.1.bolted) (.inl (Ne.symm hAB))).trans ((cs_o (.inl (Ne.symm hAB))).trans ((cs_o (.inl (Ne.symm hAB))).trans b1))
          have c2 : World.cell? _ ⟨B5, 2, none⟩ = _ := (cs_o (x := (wv.setCell ⟨A5, 0, none⟩ (.int .i64 v.1.1.pos)).setCell ⟨A5, 1, none⟩ (.int .i64 v.1.1.charge)) (c := A5) (j := 2) (v := .bool v.1.1.bolted) (.inl (Ne.symm hAB))).trans ((cs_o (.inl (Ne.symm hAB))).trans ((cs_o (.inl (Ne.symm hAB))).trans b2))
          refine wpAnyH_ready (rs := [14]) (by kernel_rfl) (by simp) ?_
          refine AllReadyH.cons (o := { dst := _, op := _, type := _, pos := _, after := _, guard := _ }) rfl (fun K hK => ?_) AllReadyH.nil
          go_simp
          refine hK.out _ _ ?_ (fun hHeld => ?_)
          · (try dsimp only); exact HS6.out
          clear hK K
          try simp only [Act.put, List.setIfInBounds_toArray, List.set_cons_zero, List.set_cons_succ]
          refine wpAnyH_take (i := 15) (oi := { dst := _, op := _, type := _, pos := _, after := _, guard := _ }) (v := ?_) rfl (by kernel_rfl) (by kernel_rfl) (by kernel_rfl) (fun _ _ _ h => h) (Or.inl ⟨by rfl, ?_⟩) HS6.out ?_
          rotate_left
          · intro wS hSw; (try dsimp only at hSw); go_simp; try (with_reducible rfl)
          try simp only [Act.put, List.setIfInBounds_toArray, List.set_cons_zero, List.set_cons_succ]
          refine wpAnyH_done (by kernel_rfl) ?_ _
          refine NoPanic.normal ?_
          clear a0 a1 a2 b0 b1 b2 c0 c1 c2 HA3 hA4 hB4 hHeld
          generalize World.setCell (World.setCell (World.setCell (World.setCell (World.setCell (World.setCell wv _ _) _ _) _ _) _ _) _ _) _ _ = U2 at *
          obtain ⟨bl0, bl1, bl2, bm0, bm1, bm2⟩ := HFin.out
          have HD2 := hid HS6.out.1
          have hUU := HS6.out.2.1
          have al0 := (hUU.cell (p := ⟨A4, 0, none⟩) hA4U).trans AK0.out
          have al1 := (hUU.cell (p := ⟨A4, 1, none⟩) hA4U).trans AK1.out
          have al2 := (hUU.cell (p := ⟨A4, 2, none⟩) hA4U).trans AK2.out
          have am0 := (hUU.cell (p := ⟨B4, 0, none⟩) hB4U).trans BK0.out
          have am1 := (hUU.cell (p := ⟨B4, 1, none⟩) hB4U).trans BK1.out
          have am2 := (hUU.cell (p := ⟨B4, 2, none⟩) hB4U).trans BK2.out
          clear hUU HFin HS6 hAB hA1 hA2 hB1 hB2 s0 s1 s2 t0 t1 t2 t3
          go_wp2_with fail
          exact ⟨⟨k + 1, by omega, by omega, by go_num, HD2⟩, by simp [intOf]; omega⟩
        · dsimp only at hV ⊢
          have V6 : vs 46 = .tuple #[.agg #[.int .i64 v.1.1.pos, .int .i64 v.1.1.charge, .bool v.1.1.bolted], .agg #[.int .i64 v.1.2.1, .int .i64 v.1.2.2.1, .int .i64 v.1.2.2.2], .int .i64 v.2] := hV (6, 46) (by simp)
          have V7 : vs 39 = .tuple #[.agg #[.int .i64 v.1.1.pos, .int .i64 v.1.1.charge, .bool v.1.1.bolted], .agg #[.int .i64 v.1.2.1, .int .i64 v.1.2.2.1, .int .i64 v.1.2.2.2], .int .i64 v.2] := hV (7, 39) (by simp)
          have V8 : vs 47 = .agg #[.int .i64 v.1.1.pos, .int .i64 v.1.1.charge, .bool v.1.1.bolted] := hV (8, 47) (by simp)
          obtain ⟨A5, eA, hA1, hA2, hA3, hA4⟩ : NewV U.heap.size [.int .i64 0, .int .i64 0, .bool false] (vs 11) wv := hV (11, 11) (by simp)
          obtain ⟨B5, eB, hB1, hB2, hB3, hB4⟩ : NewV U.heap.size [.int .i64 0, .int .i64 0, .int .i64 0] (vs 12) wv := hV (12, 12) (by simp)
          have hAB := box_ne hA3 hB3
          simp only [putL, V6, V7, V8, eA, eB]
          try simp only [Act.put, List.setIfInBounds_toArray, List.set_cons_zero, List.set_cons_succ]
          have hSg := hS
          refine wpAnyH_take (i := 9) (oi := { dst := _, op := _, type := _, pos := _, after := _, guard := _ }) (v := ?_) rfl (by kernel_rfl) (by kernel_rfl) (by kernel_rfl) (fun _ _ _ h => h) (Or.inl ⟨by rfl, ?_⟩) (by assumption) ?_
          rotate_left
          · intro wS hSw; (try dsimp only at hSw); go_simp; try (with_reducible rfl)
          try simp only [Act.put, List.setIfInBounds_toArray, List.set_cons_zero, List.set_cons_succ]
          refine wpAnyH_take (i := 10) (oi := { dst := _, op := _, type := _, pos := _, after := _, guard := _ }) (v := ?_) rfl (by kernel_rfl) (by kernel_rfl) (by kernel_rfl) (fun _ _ _ h => h) (Or.inl ⟨by rfl, ?_⟩) (by assumption) ?_
          rotate_left
          · intro wS hSw; (try dsimp only at hSw); go_simp; try (with_reducible rfl)
          try simp only [Act.put, List.setIfInBounds_toArray, List.set_cons_zero, List.set_cons_succ]
          clear hSg
          clear hV V6 V7 V8 eA eB hHeld
          have a0 := range_cell hA3 (show [_, _, _][0]? = some (Value.int .i64 0) from rfl)
          have a1 := range_cell hA3 (show [_, _, _][1]? = some (Value.int .i64 0) from rfl)
          have a2 := range_cell hA3 (show [_, _, _][2]? = some (Value.bool false) from rfl)
          have b0 := range_cell hB3 (show [_, _, _][0]? = some (Value.int .i64 0) from rfl)
          have b1 := range_cell hB3 (show [_, _, _][1]? = some (Value.int .i64 0) from rfl)
          have b2 := range_cell hB3 (show [_, _, _][2]? = some (Value.int .i64 0) from rfl)
          have HFin := hid (fin10 (U := wv) (A := A5) (B := B5) hAB ⟨_, a0⟩ ⟨_, a1⟩ ⟨_, a2⟩ ⟨_, b0⟩ ⟨_, b1⟩ ⟨_, b2⟩ (.int .i64 v.1.1.pos) (.int .i64 v.1.1.charge) (.bool v.1.1.bolted) (.int .i64 v.1.2.1) (.int .i64 v.1.2.2.1) (.int .i64 v.1.2.2.2))
          have HA3 := hid (setLd (A := A5) (j := 2) hbV hwV hA1 (.bool v.1.1.bolted) (setLd (A := A5) (j := 1) hbV hwV hA1 (.int .i64 v.1.1.charge) (setLd (A := A5) (j := 0) hbV hwV hA1 (.int .i64 v.1.1.pos) hS)))
          have HS6 := hid (setLd (A := B5) (j := 2) hbV hwV hB1 (.int .i64 v.1.2.2.2) (setLd (A := B5) (j := 1) hbV hwV hB1 (.int .i64 v.1.2.2.1) (setLd (A := B5) (j := 0) hbV hwV hB1 (.int .i64 v.1.2.1) HA3.out)))
          clear hA3 hB3 hS
          refine wpAnyH_ready (rs := [13]) (by kernel_rfl) (by simp) ?_
          refine AllReadyH.cons (o := { dst := _, op := _, type := _, pos := _, after := _, guard := _ }) rfl (fun K hK => ?_) AllReadyH.nil
          go_simp
          refine hK.out _ _ ?_ (fun hHeld => ?_)
          · (try dsimp only); exact HA3.out
          clear hK K
          try simp only [Act.put, List.setIfInBounds_toArray, List.set_cons_zero, List.set_cons_succ]
          have c0 : World.cell? _ ⟨B5, 0, none⟩ = _ := (cs_o (x := (wv.setCell ⟨A5, 0, none⟩ (.int .i64 v.1.1.pos)).setCell ⟨A5, 1, none⟩ (.int .i64 v.1.1.charge)) (c := A5) (j := 2) (v := .bool v.1.1.bolted) (.inl (Ne.symm hAB))).trans ((cs_o (.inl (Ne.symm hAB))).trans ((cs_o (.inl (Ne.symm hAB))).trans b0))
          have c1 : World.cell? _ ⟨B5, 1, none⟩ = _ := (cs_o (x := (wv.setCell ⟨A5, 0, none⟩ (.int .i64 v.1.1.pos)).setCell ⟨A5, 1, none⟩ (.int .i64 v.1.1.charge)) (c := A5) (j := 2) (v := .bool v.1.1.bolted) (.inl (Ne.symm hAB))).trans ((cs_o (.inl (Ne.symm hAB))).trans ((cs_o (.inl (Ne.symm hAB))).trans b1))
          have c2 : World.cell? _ ⟨B5, 2, none⟩ = _ := (cs_o (x := (wv.setCell ⟨A5, 0, none⟩ (.int .i64 v.1.1.pos)).setCell ⟨A5, 1, none⟩ (.int .i64 v.1.1.charge)) (c := A5) (j := 2) (v := .bool v.1.1.bolted) (.inl (Ne.symm hAB))).trans ((cs_o (.inl (Ne.symm hAB))).trans ((cs_o (.inl (Ne.symm hAB))).trans b2))
          refine wpAnyH_ready (rs := [14]) (by kernel_rfl) (by simp) ?_
          refine AllReadyH.cons (o := { dst := _, op := _, type := _, pos := _, after := _, guard := _ }) rfl (fun K hK => ?_) AllReadyH.nil
          go_simp
          refine hK.out _ _ ?_ (fun hHeld => ?_)
          · (try dsimp only); exact HS6.out
          clear hK K
          try simp only [Act.put, List.setIfInBounds_toArray, List.set_cons_zero, List.set_cons_succ]
          refine wpAnyH_take (i := 15) (oi := { dst := _, op := _, type := _, pos := _, after := _, guard := _ }) (v := ?_) rfl (by kernel_rfl) (by kernel_rfl) (by kernel_rfl) (fun _ _ _ h => h) (Or.inl ⟨by rfl, ?_⟩) HS6.out ?_
          rotate_left
          · intro wS hSw; (try dsimp only at hSw); go_simp; try (with_reducible rfl)
          try simp only [Act.put, List.setIfInBounds_toArray, List.set_cons_zero, List.set_cons_succ]
          refine wpAnyH_done (by kernel_rfl) ?_ _
          refine NoPanic.normal ?_
          clear a0 a1 a2 b0 b1 b2 c0 c1 c2 HA3 hA4 hB4 hHeld
          generalize World.setCell (World.setCell (World.setCell (World.setCell (World.setCell (World.setCell wv _ _) _ _) _ _) _ _) _ _) _ _ = U2 at *
          obtain ⟨bl0, bl1, bl2, bm0, bm1, bm2⟩ := HFin.out
          have HD2 := hid HS6.out.1
          have hUU := HS6.out.2.1
          have al0 := (hUU.cell (p := ⟨A4, 0, none⟩) hA4U).trans AK0.out
          have al1 := (hUU.cell (p := ⟨A4, 1, none⟩) hA4U).trans AK1.out
          have al2 := (hUU.cell (p := ⟨A4, 2, none⟩) hA4U).trans AK2.out
          have am0 := (hUU.cell (p := ⟨B4, 0, none⟩) hB4U).trans BK0.out
          have am1 := (hUU.cell (p := ⟨B4, 1, none⟩) hB4U).trans BK1.out
          have am2 := (hUU.cell (p := ⟨B4, 2, none⟩) hB4U).trans BK2.out
          clear hUU HFin HS6 hAB hA1 hA2 hB1 hB2 s0 s1 s2 t0 t1 t2 t3
          go_wp2_with fail
          exact ⟨⟨k + 1, by omega, by omega, by go_num, HD2⟩, by simp [intOf]; omega⟩
    · have BF := HD.out.below
      have s0 := range_cell HD.out.ss (show (stL s)[0]? = some (.int .i64 s.pos) from rfl)
      have s1 := range_cell HD.out.ss (show (stL s)[1]? = some (.int .i64 s.charge) from rfl)
      have s2 := range_cell HD.out.ss (show (stL s)[2]? = some (.bool s.bolted) from rfl)
      have R := HD.out.rows
      have q : (k : Int) < (n : Int) → ¬ (k : Int) < 20 := fun h1 h2 => hin ⟨by omega, by omega⟩
      by_cases hlt : (k : Int) < (n : Int)
      all_goals
        first | (have q20 := q hlt) | skip
        clear hin q
        go_upto_region 8 with fail
        go_wp2_with (refine wpList_load_mid rfl 25 _ rfl _ 0 rfl (gtL g p) _ (R) Tryz.underlying25 rfl (by kernel_rfl) ?_)
        with_reducible refine (HRu.out _ HD.out.below).mono ?_
        rintro e w3 ⟨a1, c1, rfl, hr1, hb⟩
        have H3 := hid (HD.out.later hb)
        have hR1 := hid hr1
        clear R s0 s1 s2 hr1 hb BF
        have s0 := range_cell H3.out.ss (show (stL s)[0]? = some (.int .i64 s.pos) from rfl)
        have s1 := range_cell H3.out.ss (show (stL s)[1]? = some (.int .i64 s.charge) from rfl)
        have s2 := range_cell H3.out.ss (show (stL s)[2]? = some (.bool s.bolted) from rfl)
        have R := H3.out.rows
        go_wp2_with (refine wpList_load_mid rfl 25 _ rfl _ 0 rfl (gtL g p) _ (R) Tryz.underlying25 rfl (by kernel_rfl) ?_)
        with_reducible refine (HRr.out _ H3.out.below).mono ?_
        rintro e w4 ⟨a2, c2, rfl, hr2, hb⟩
        have H4 := hid (H3.out.later hb)
        have hR1' := hid (hR1.out.later hb (Nat.le_refl _))
        have hR2 := hid hr2
        clear R s0 s1 s2 hr2 hb hR1
        have qe : (runE g s ts == runE g s ts) = true := by simp
        go_wp2_with fail
        refine (refStates_any a1 a2 (runL g s ts) (runL g s ts).length c1 c2 _ rfl hrl hR1'.out hR2.out).mono ?_
        rintro e w5 ⟨rfl, hb5⟩
        go_wp2_with fail
        refine (awake_any _).mono ?_
        rintro e w9 ⟨rfl, hb9⟩
        go_wp2_with fail
        go_ret
        exact ⟨rfl, bthen (bthen H4.out.below hb5) hb9⟩
end Go.Proofs.YtdoklolinbmhpaaGreat
