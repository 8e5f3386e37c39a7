/- Gate, part WO: the same step for all gates (slices.Repeat). -/
import Derived.Test.YtdoklolinbmhpaaGreatWL
import Derived.Laws.IdiomCopy
set_option linter.all false
namespace Go.Proofs.YtdoklolinbmhpaaGreat
open Go.RowKit

theorem below_cells {B b : Nat} {a : World} (hb : B ≤ b) : ∀ (vs : List Value) (o : Nat) (w : World), Below B a w → Below B a (w.setCells b o vs)
  | [], _, _, h => h
  | v :: vs, o, w, h => below_cells hb vs (o + 1) _ (h.setCell hb v)
theorem size_cells (b : Nat) (vs : List Value) (o : Nat) (w : World) : w.heap.size ≤ (w.setCells b o vs).heap.size := (below_cells (B := 0) (Nat.zero_le _) vs o w (Below.refl _ _)).size
/-- copy of elements of any size. -/
theorem run_copy_many {P : Program} (w : World) (dT sT ty elem : TypeId) (b o dLen dCap : Nat) (a : Addr) (sLen sCap k : Nat) (cs : List Value)
    (hu : P.underlying dT = some (.slice elem)) (hs : (P.info? elem).map (·.size) = some k) (hn : cs.length = Nat.min sLen dLen * k)
    (hsrc : ∀ j v, cs[j]? = some v → w.cell? (a.add j) = some v) (hc : ∀ j, j < cs.length → (w.cell? ⟨b, o + j, none⟩).isSome = true) (hf : ∀ j, j < cs.length → w.frozen? ⟨b, o + j, none⟩ = false) (h1 : ∀ v ∈ cs, v.oneCell' = true) :
    (Builtin.copy_ #[dT, sT] ty #[.slice (some ⟨b, o, none⟩) dLen dCap, .slice (some a) sLen sCap]).run P w = .ok (goInt (Nat.min sLen dLen)) (w.setCells b o cs) := by
  have hl := run_loadCells_list (P := P) w a cs hsrc
  have hst := run_storeCells_cells (P := P) b o cs 0 w (by simpa using hc) (by simpa using hf) h1
  cases hq : P.info? elem with
  | none => simp [hq] at hs
  | some i =>
    have hi : i.size = k := by simpa [hq] using hs
    rw [hn] at hl
    simp [Builtin.copy_, run_underlying hu, Builtin.lenOf, Builtin.firstCells, sizeOf, typeInfo, hq, hi, hl, hst]
theorem run_copy_manyM {P : Program} (w : World) (dT sT ty elem : TypeId) (b o dLen dCap : Nat) (a : Addr) (sLen sCap k : Nat) (cs : List Value)
    (hu : P.underlying dT = some (.slice elem)) (hs : (P.info? elem).map (·.size) = some k) (hn : cs.length = Nat.min sLen dLen * k)
    (hsrc : ∀ j v, cs[j]? = some v → w.cell? (a.add j) = some v) (hc : ∀ j, j < cs.length → (w.cell? ⟨b, o + j, none⟩).isSome = true) (hf : ∀ j, j < cs.length → w.frozen? ⟨b, o + j, none⟩ = false) (h1 : ∀ v ∈ cs, v.oneCell' = true) (m : Nat) (hm : Nat.min sLen dLen = m) :
    (Builtin.copy_ #[dT, sT] ty #[.slice (some ⟨b, o, none⟩) dLen dCap, .slice (some a) sLen sCap]).run P w = .ok (.int .i64 (m : Int)) (w.setCells b o cs) := by
  subst hm; exact run_copy_many w dT sT ty elem b o dLen dCap a sLen sCap k cs hu hs hn hsrc hc hf h1
theorem wp_copy_many {P : Program} {o : Oper} {a : Act} {w : World} {K : Act → World → Prop} {Q : Exit → Act → World → Prop} (d s : Operand) (dT sT : TypeId)
    (ho : o.op = .call { callee := .builtin .copy, args := #[d, s], argTypes := #[dT, sT] }) (elem : TypeId) (k : Nat) (hu : P.underlying dT = some (.slice elem)) (hsz : (P.info? elem).map (·.size) = some k)
    (g off dLen dCap sLen sCap : Nat) (ad : Addr) (hd : a.eval d = .slice (some ⟨g, off, none⟩) dLen dCap) (hs : a.eval s = .slice (some ad) sLen sCap) (cs : List Value) (hn : cs.length = Nat.min sLen dLen * k)
    (hsrc : ∀ j v, cs[j]? = some v → w.cell? (ad.add j) = some v) (hc : ∀ j, j < cs.length → (w.cell? ⟨g, off + j, none⟩).isSome = true) (hf : ∀ j, j < cs.length → w.frozen? ⟨g, off + j, none⟩ = false) (h1 : ∀ v ∈ cs, v.oneCell' = true)
    (m : Nat) (hm : Nat.min sLen dLen = m) (h : K (a.put o.dst (.int .i64 (m : Int))) (w.setCells g off cs)) : Oper.wp P o a w K Q := by
  subst hm
  have hrun := run_copy_many (P := P) w dT sT o.type elem g off dLen dCap ad sLen sCap k cs hu hsz hn hsrc hc hf h1
  unfold Oper.wp
  simp [execOp, ho, resolve, invoke, builtin, hd, hs, hrun, Result.andThen]
  exact h
theorem wpList_copy_many {P : Program} {ops : Array Oper} {rest : List Oper} {o : Oper} {a : Act} {w : World} {Q : Exit → Act → World → Prop} (hgd : o.guard = none) (d s : Operand) (dT sT : TypeId)
    (ho : o.op = .call { callee := .builtin .copy, args := #[d, s], argTypes := #[dT, sT] }) (elem : TypeId) (k : Nat) (hu : P.underlying dT = some (.slice elem)) (hsz : (P.info? elem).map (·.size) = some k)
    (g off dLen dCap sLen sCap : Nat) (ad : Addr) (hd : a.eval d = .slice (some ⟨g, off, none⟩) dLen dCap) (hs : a.eval s = .slice (some ad) sLen sCap) (cs : List Value) (hn : cs.length = Nat.min sLen dLen * k)
    (hsrc : ∀ j v, cs[j]? = some v → w.cell? (ad.add j) = some v) (hc : ∀ j, j < cs.length → (w.cell? ⟨g, off + j, none⟩).isSome = true) (hf : ∀ j, j < cs.length → w.frozen? ⟨g, off + j, none⟩ = false) (h1 : ∀ v ∈ cs, v.oneCell' = true)
    (m : Nat) (hm : Nat.min sLen dLen = m) (h : wpList P ops Q rest (a.put o.dst (.int .i64 (m : Int))) (w.setCells g off cs)) : wpList P ops Q (o :: rest) a w :=
  wpList_plain hgd fun _ hK => wp_copy_many d s dT sT ho elem k hu hsz g off dLen dCap sLen sCap ad hd hs cs hn hsrc hc hf h1 m hm (hK _ _ h)

/-- bits.Mul of 1 and a small number. -/
theorem mul_any (n : Nat) (hn : n ≤ 6) (w : World) :
    Calls Tryz.prog 90 #[.int .u64 1, .int .u64 n] w fun e w' => e = .returned (.tuple #[.int .u64 0, .int .u64 n]) ∧ w = w' := by
  have h : n = 0 ∨ n = 1 ∨ n = 2 ∨ n = 3 ∨ n = 4 ∨ n = 5 ∨ n = 6 := by omega
  rcases h with rfl | rfl | rfl | rfl | rfl | rfl | rfl
  all_goals
    go_enter Tryz.func90, Tryz.ntmps90
    go_wp2
    go_ret2
    exact ⟨by kernel_rfl, rfl⟩

theorem spL_one (t : Sp) : ∀ v ∈ spL t, v.oneCell' = true := by
  have h : (spL t).all (·.oneCell') = true := rfl
  exact fun v hv => List.all_eq_true.1 h v hv
/-- So many rows of one kind. -/
def rowsC (t : Sp) : Nat → List Value
  | 0 => []
  | m + 1 => spL t ++ rowsC t m
theorem rowsC_len (t : Sp) : ∀ m, (rowsC t m).length = m * 4
  | 0 => rfl
  | m + 1 => by
    show (spL t ++ rowsC t m).length = _
    rw [List.length_append, rowsC_len t m]; show 4 + m * 4 = _; omega
theorem rowsC_get (t : Sp) : ∀ m j, j < m * 4 → (rowsC t m)[j]? = (spL t)[j % 4]?
  | 0, j, h => by omega
  | m + 1, j, h => by
    show (spL t ++ rowsC t m)[j]? = _
    by_cases hj : j < 4
    · rw [List.getElem?_append_left (show j < (spL t).length from hj), Nat.mod_eq_of_lt hj]
    · rw [List.getElem?_append_right (show (spL t).length ≤ j by show 4 ≤ j; omega)]
      show (rowsC t m)[j - 4]? = _
      rw [rowsC_get t m (j - 4) (by omega)]
      congr 1; omega
theorem rowsC_one (t : Sp) (m : Nat) : ∀ v ∈ rowsC t m, v.oneCell' = true := by
  induction m with
  | zero => intro v hv; cases hv
  | succ m ih =>
    intro v hv
    rcases List.mem_append.1 (show v ∈ spL t ++ rowsC t m from hv) with h | h
    · exact spL_one t v h
    · exact ih v h
/-- The first k rows are laid; n rows are there. -/
structure RepInv (wr : World) (A n k : Nat) (t : Sp) : Prop where
  laid : ∀ j v, j < k * 4 → (spL t)[j % 4]? = some v → wr.cell? ⟨A, j, none⟩ = some v
  there : ∀ j, j < n * 4 → (wr.cell? ⟨A, j, none⟩).isSome = true
  free : ∀ o, wr.frozen? ⟨A, o, none⟩ = false
theorem RepInv.more {wr : World} {A n k m : Nat} {t : Sp} (h : RepInv wr A n k t) (hk : k + m ≤ n) : RepInv (wr.setCells A (k * 4) (rowsC t m)) A n (k + m) t := by
  have hl := rowsC_len t m
  refine ⟨fun j v hj hv => ?_, fun j hj => World.isSome_setCells _ _ _ _ _ (h.there j hj), fun o => by rw [World.frozen?_setCells]; exact h.free o⟩
  by_cases hjk : j < k * 4
  · rw [World.cell?_setCells_out _ _ _ _ _ (fun _ _ => .inl hjk)]
    exact h.laid j v hjk hv
  · have hr : j - k * 4 < (rowsC t m).length := by rw [hl]; omega
    have hin := World.cell?_setCells_in A (rowsC t m) (k * 4) wr (fun i hi => h.there _ (by rw [hl] at hi; omega)) (j - k * 4) hr
    rw [show k * 4 + (j - k * 4) = j by omega] at hin
    rw [hin]
    have hg := rowsC_get t m (j - k * 4) (by rw [hl] at hr; exact hr)
    rw [show (j - k * 4) % 4 = j % 4 by omega, hv, List.getElem?_eq_getElem hr] at hg
    exact hg
theorem RepInv.drew {wr : World} {A n k : Nat} {t : Sp} (h : RepInv wr A n k t) : RepInv wr.drew A n k t :=
  ⟨fun j v hj hv => by simpa using h.laid j v hj hv, fun j hj => by simpa using h.there j hj, fun o => by simpa using h.free o⟩
theorem Tryz.infoSp : (Tryz.prog.info? 35).map (fun i => (i.zero, i.size, i.bytes)) = some (some (.agg #[.int .i64 0, .bool false, .int .i64 0, .int .i64 0]), 4, 32) := by kernel_rfl
/-- What Repeat returns. -/
def RepOf (w : World) (n : Nat) (t : Sp) (e : Ending) (w' : World) : Prop :=
  ∃ A, e = .returned (.slice (some ⟨A, 0, none⟩) n n) ∧ A < w'.heap.size ∧ (∀ j, j < n → w'.rangeAt A (j * 4) (spL t)) ∧ Below w.heap.size w w'
set_option maxRecDepth 100000 in
set_option maxHeartbeats 4000000 in
theorem repeat_any (b n : Nat) (t : Sp) (w : World) (hn : 1 ≤ n ∧ n ≤ 6) (hb : b < w.heap.size) (hr : w.rangeAt b 0 (spL t)) :
    Calls Tryz.prog 58 #[.slice (some ⟨b, 0, none⟩) 1 1, .int .i64 n] w (RepOf w n t) := by
  obtain ⟨hn1, hn6⟩ := hn
  have HR := hid hr
  clear hr
  have u1 : IntKind.u64.wrap (n : Int) = n := by unfold IntKind.wrap; simp [IntKind.signed, IntKind.bits]; omega
  have i1 : IntKind.i64.wrap (n : Int) = n := IntWalk.i64_in _ (by omega)
  obtain ⟨i0, hi, hz0, hz1, hz2⟩ := info_parts Tryz.infoSp
  go_enter Tryz.func58, Tryz.ntmps58
  go_wp2_with (first | (go_at_call 90; (with_reducible refine (mul_any n hn6 _).mono ?_); rintro e w' ⟨rfl, rfl⟩) | (at_make; refine wpList_make_full _ rfl _ _ _ rfl w.heap.size 35 i0 (.agg #[.int .i64 0, .bool false, .int .i64 0, .int .i64 0]) 4 Tryz.underlying28 hi hz0 hz1 .i64 .i64 _ _ n rfl rfl rfl rfl (by rw [hz2]; omega) (by unfold maxLen; omega) (Nat.le_refl _) ?_; intro W2 hown hgrow; have I0 : Hid (RepInv W2 w.heap.size n 0 t) := hid ⟨fun j v hj => absurd hj (by omega), fun j hj => by (rw [hown.cellAt j hj, List.getElem?_eq_getElem (by rw [hown.1]; exact hj)]; rfl), fun o => hown.frozenAt o⟩; have B2 : Below w.heap.size w W2 := (Below.refl _ _).grown hgrow (Nat.le_refl _) (by intro k e; cases e); have S2 : w.heap.size < W2.heap.size := (hown.lt _ rfl).2; have R2 := hid (range_later HR.out B2 hb)) | (refine wpList_copy_many rfl _ _ _ _ rfl 35 4 Tryz.underlying28 (by kernel_rfl) w.heap.size (0 * 4) n n 1 1 ⟨b, 0, none⟩ rfl rfl (rowsC t 1) (by rw [rowsC_len, show Nat.min 1 n = 1 from Nat.min_eq_left hn1]) (fun j v hv => by rw [Addr.add_mid]; exact R2.out j v (by simpa [rowsC] using hv)) (fun j hj => by rw [Nat.zero_mul]; exact I0.out.there _ (by rw [rowsC_len] at hj; omega)) (fun j hj => I0.out.free _) (rowsC_one t 1) 1 (Nat.min_eq_left hn1) ?_))
  have I1 := hid (I0.out.more (m := 1) (by omega))
  have B3 := below_cells (B := w.heap.size) (b := w.heap.size) (Nat.le_refl _) (rowsC t 1) (0 * 4) W2 B2
  have S3 := Nat.lt_of_lt_of_le S2 (size_cells w.heap.size (rowsC t 1) (0 * 4) W2)
  clear R2 hown hgrow hi hz0 hz1 hz2 B2 S2 I0
  generalize World.setCells _ _ _ _ = W3 at *
  go_loopw [8] (fun c wr => ∃ k : Nat, 1 ≤ k ∧ k ≤ n ∧ c = .int .i64 k ∧ Hid (RepInv wr w.heap.size n k t) ∧ Below w.heap.size w wr ∧ w.heap.size < wr.heap.size) (fun c _ => n - (intOf c).toNat)
  case atStart => exact ⟨1, Nat.le_refl _, hn1, rfl, by simpa using I1, B3, S3⟩
  case round =>
    obtain ⟨k, hk1, hk, rfl, HI, hbw, sw⟩ := hrel
    by_cases hlt : k < n
    · have hkI : (k : Int) < (n : Int) := by omega
      have hk0 : (0 : Int) ≤ (k : Int) := by omega
      have hkn : (k : Int) ≤ (n : Int) := by omega
      obtain ⟨m, hm⟩ : ∃ m, Nat.min k (n - k) = m := ⟨_, rfl⟩
      have hm2 : k + m ≤ n ∧ 1 ≤ m ∧ m ≤ k := by have : Nat.min k (n - k) = min k (n - k) := rfl; omega
      have HM := hid hm
      have HI0 := hid HI.out.drew
      have wk : IntKind.i64.wrap ((k : Int) + (m : Int)) = (k : Int) + (m : Int) := IntWalk.i64_in _ (by omega)
      have hnk : ¬ n = k := by omega
      have HSrc := hid (show ∀ j v, (rowsC t m)[j]? = some v → wr.drew.cell? ((⟨w.heap.size, 0, none⟩ : Addr).add j) = some v from fun j v hv => by
        have hj : j < m * 4 := by have := (List.getElem?_eq_some_iff.1 hv).1; rwa [rowsC_len] at this
        rw [Addr.add_mid, Nat.zero_add]
        exact HI0.out.laid j v (by omega) (by rw [← rowsC_get t m j hj]; exact hv))
      have HFin := hid (show RepInv (wr.drew.setCells w.heap.size (k * 4) (rowsC t m)) w.heap.size n (k + m) t from HI0.out.more hm2.1)
      clear hm I1 B3 S3
      go_wp2_with fail
      refine wp_region_noPanic ?_
      refine wp_region_held_drew (S := (fun w' => Below w.heap.size w w' ∧ w.heap.size < w'.heap.size)) (by kernel_rfl) ?_ (fun hHeld => ?_)
      · exact ⟨hbw.drew, by simpa using sw⟩
      refine wpAnyH_take (i := 0) (oi := { dst := _, op := _, type := _, pos := _, after := _, guard := _ }) (v := ?_) rfl (by kernel_rfl) (by kernel_rfl) (by kernel_rfl) (fun _ _ _ h => h) (Or.inl ⟨by rfl, ?_⟩) (by assumption) ?_
      rotate_left
      · intro wS hSw; (try dsimp only at hSw); go_simp; try (with_reducible rfl)
      try simp only [Act.put, List.setIfInBounds_toArray, List.set_cons_zero, List.set_cons_succ]
      refine wpAnyH_take (i := 1) (oi := { dst := _, op := _, type := _, pos := _, after := _, guard := _ }) (v := ?_) rfl (by kernel_rfl) (by kernel_rfl) (by kernel_rfl) (fun _ _ _ h => h) (Or.inl ⟨by rfl, ?_⟩) (by assumption) ?_
      rotate_left
      · intro wS hSw; (try dsimp only at hSw); go_simp; try (with_reducible rfl)
      try simp only [Act.put, List.setIfInBounds_toArray, List.set_cons_zero, List.set_cons_succ]
      refine wpAnyH_take (i := 2) (oi := { dst := _, op := _, type := _, pos := _, after := _, guard := _ }) (v := ?_) rfl (by kernel_rfl) (by kernel_rfl) (by kernel_rfl) (fun _ _ _ h => h) (Or.inl ⟨by rfl, ?_⟩) (by assumption) ?_
      rotate_left
      · intro wS hSw; (try dsimp only at hSw); go_simp; try (with_reducible rfl)
      try simp only [Act.put, List.setIfInBounds_toArray, List.set_cons_zero, List.set_cons_succ]
      refine wpAnyH_take (i := 3) (oi := { dst := _, op := _, type := _, pos := _, after := _, guard := _ }) (v := ?_) rfl (by kernel_rfl) (by kernel_rfl) (by kernel_rfl) (fun _ _ _ h => h) (Or.inl ⟨by rfl, ?_⟩) (by assumption) ?_
      rotate_left
      · intro wS hSw; (try dsimp only at hSw); go_simp; try (with_reducible rfl)
      try simp only [Act.put, List.setIfInBounds_toArray, List.set_cons_zero, List.set_cons_succ]
      refine wpAnyH_take (i := 4) (oi := { dst := _, op := _, type := _, pos := _, after := _, guard := _ }) (v := ?_) rfl (by kernel_rfl) (by kernel_rfl) (by kernel_rfl) (fun _ _ _ h => h) (Or.inl ⟨by rfl, ?_⟩) (by assumption) ?_
      rotate_left
      · intro wS hSw; (try dsimp only at hSw); go_simp; try (with_reducible rfl)
      try simp only [Act.put, List.setIfInBounds_toArray, List.set_cons_zero, List.set_cons_succ]
      refine wpAnyH_take (i := 5) (oi := { dst := _, op := _, type := _, pos := _, after := _, guard := _ }) (v := ?_) rfl (by kernel_rfl) (by kernel_rfl) (by kernel_rfl) (fun _ _ _ h => h) (Or.inl ⟨by rfl, ?_⟩) (by assumption) ?_
      rotate_left
      · intro wS hSw; (try dsimp only at hSw); go_simp; try (with_reducible rfl)
      try simp only [Act.put, List.setIfInBounds_toArray, List.set_cons_zero, List.set_cons_succ]
      refine wpAnyH_take (i := 6) (oi := { dst := _, op := _, type := _, pos := _, after := _, guard := _ }) (v := ?_) rfl (by kernel_rfl) (by kernel_rfl) (by kernel_rfl) (fun _ _ _ h => h) (Or.inl ⟨by rfl, ?_⟩) (by assumption) ?_
      rotate_left
      · intro wS hSw; (try dsimp only at hSw); go_simp; try (with_reducible rfl)
      try simp only [Act.put, List.setIfInBounds_toArray, List.set_cons_zero, List.set_cons_succ]
      refine wpAnyH_ready (rs := [7]) (by kernel_rfl) (by simp) ?_
      refine AllReadyH.cons (o := { dst := _, op := _, type := _, pos := _, after := _, guard := _ }) rfl (fun K hK => ?_) AllReadyH.nil
      go_simp
      (rw [run_copy_manyM (P := Tryz.prog) wr.drew 28 28 3 35 w.heap.size (k * 4) (n - k) (n - k) ⟨w.heap.size, 0, none⟩ k n 4 (rowsC t m) Tryz.underlying28 (by kernel_rfl) (by rw [rowsC_len, HM.out]) HSrc.out (fun j hj => HI0.out.there _ (by rw [rowsC_len] at hj; omega)) (fun j hj => HI0.out.free _) (rowsC_one t m) m HM.out]; simp only [Result.andThen_ok])
      try go_wp2_with fail
      refine hK.out _ _ ?_ (fun hHeld => ?_)
      · (try dsimp only); exact ⟨below_cells (Nat.le_refl _) _ _ _ hHeld.1, Nat.lt_of_lt_of_le hHeld.2 (size_cells _ _ _ _)⟩
      clear hK K
      try simp only [Act.put, List.setIfInBounds_toArray, List.set_cons_zero, List.set_cons_succ]
      refine wpAnyH_take (i := 8) (oi := { dst := _, op := _, type := _, pos := _, after := _, guard := _ }) (v := ?_) rfl (by kernel_rfl) (by kernel_rfl) (by kernel_rfl) (fun _ _ _ h => h) (Or.inl ⟨by rfl, ?_⟩) (by assumption) ?_
      rotate_left
      · intro wS hSw; (try dsimp only at hSw); go_simp; try (with_reducible rfl)
      try simp only [Act.put, List.setIfInBounds_toArray, List.set_cons_zero, List.set_cons_succ]
      refine wpAnyH_take (i := 9) (oi := { dst := _, op := _, type := _, pos := _, after := _, guard := _ }) (v := ?_) rfl (by kernel_rfl) (by kernel_rfl) (by kernel_rfl) (fun _ _ _ h => h) (Or.inl ⟨by rfl, ?_⟩) (by assumption) ?_
      rotate_left
      · intro wS hSw; (try dsimp only at hSw); go_simp; try (with_reducible rfl)
      try simp only [Act.put, List.setIfInBounds_toArray, List.set_cons_zero, List.set_cons_succ]
      refine wpAnyH_done (by kernel_rfl) ?_ _
      refine NoPanic.normal ?_

      have hB9 := hHeld.1
      have hS9 := hHeld.2
      clear hHeld
      generalize World.setCells _ _ _ _ = G at *
      go_wp2_with fail
      go_roundw
      case rel => exact ⟨k + m, by omega, by omega, by go_num, HFin, hB9, hS9⟩
      case measure => simp [intOf]; omega
    · have hkl : k = n := by omega
      subst hkl
      go_wp2_with fail
      go_ret
      exact ⟨w.heap.size, rfl, sw, fun j hj i v hv => HI.out.laid _ v (by have : i < 4 := (List.getElem?_eq_some_iff.1 hv).1; omega) (by rw [show (j * 4 + i) % 4 = i by have : i < 4 := (List.getElem?_eq_some_iff.1 hv).1; omega]; exact hv), hbw⟩
end Go.Proofs.YtdoklolinbmhpaaGreat

set_option linter.all false
namespace Go.Proofs.YtdoklolinbmhpaaGreat
open Go.RowKit

theorem toClose_any (o i : Int) (p : Bool) (w : World) :
    Calls Tryz.prog 45 #[.int .i64 o, .int .i64 i, .bool p] w fun e w' => e = .returned (.agg #[.int .i64 1, .bool p, .int .i64 o, .int .i64 i]) ∧ Below w.heap.size w w' := by
  go_enter Tryz.func45, Tryz.ntmps45
  go_wp2_with fail
  exact bodyPost_ret (v := .agg #[.int .i64 1, .bool p, .int .i64 o, .int .i64 i]) (by simp [results, Tryz.results45, go_sem]) rfl ⟨rfl, (Below.refl _ _).alloc (Nat.le_refl _) _⟩
theorem keepDl {w x y : World} {a b : Value} (hxy : Below x.heap.size x y) (h : Below w.heap.size w x ∧ x.cell? ⟨w.heap.size, 0, none⟩ = some a ∧ x.cell? ⟨w.heap.size, 1, none⟩ = some b ∧ w.heap.size < x.heap.size) : Below w.heap.size w y ∧ y.cell? ⟨w.heap.size, 0, none⟩ = some a ∧ y.cell? ⟨w.heap.size, 1, none⟩ = some b ∧ w.heap.size < y.heap.size := by
  obtain ⟨h0, h1, h2, h3⟩ := h
  exact ⟨h0.trans (hxy.mono h0.size), (hxy.cell (p := ⟨w.heap.size, 0, none⟩) h3).trans h1, (hxy.cell (p := ⟨w.heap.size, 1, none⟩) h3).trans h2, Nat.lt_of_lt_of_le h3 hxy.size⟩
theorem Tryz.infoBool : (Tryz.prog.info? 4).map (fun i => (i.zero, i.size, i.bytes)) = some (some (.bool false), 1, 1) := by kernel_rfl
theorem rows_rep {w : World} {A n : Nat} {t : Sp} (hA : A < w.heap.size) (h : ∀ j, j < n → w.rangeAt A (j * 4) (spL t)) : RowsL (fun _ s => spL s) 4 w (some ⟨A, 0, none⟩) (List.replicate n t) :=
  .inr ⟨A, 0, rfl, hA, fun i hi => by
    rw [List.getElem_replicate, Nat.zero_add]; exact h i (by simpa using hi)⟩
theorem rows_no {w : World} {A n : Nat} (hA : A < w.heap.size) (h : ∀ j, j < n → w.cell? ⟨A, j, none⟩ = some (.bool false)) : RowsL (fun _ b => [.bool b]) 1 w (some ⟨A, 0, none⟩) (List.replicate n false) :=
  .inr ⟨A, 0, rfl, hA, fun i hi j v hv => by
    have hj : j = 0 := by have := (List.getElem?_eq_some_iff.1 hv).1; simpa using this
    subst hj
    rw [List.getElem_replicate] at hv
    have hv' : v = .bool false := by simpa using hv.symm
    rw [hv']
    have := h i (by simpa using hi)
    simpa using this⟩
theorem stsGood {gs : List Gt} {ss : List St} {ts : List Sp} {n : Nat} (hn : gs.length = n) (ls : ss.length = n) (lt : ts.length = n) (h : stsP gs ss ts n = 0) : ∀ i, i < n → StGood (gs.getD i default) (ss.getD i default) ∧ SpGood (ts.getD i default) := by
  intro i hi
  unfold stsP at h
  rw [firstAt_all] at h
  simp only [List.mem_cons, List.not_mem_nil, or_false, forall_eq_or_imp, forall_eq, each_all0] at h
  exact spGoods (h.2 i (Nat.zero_le _) (by omega))
theorem search_bd (gs : List Gt) (rs : List Ru) (ts : List Sp) (hs : List Bool) : ∀ (f n : Nat) (ss : List St), 0 ≤ (searchF gs rs ts hs n f ss).1 ∧ (searchF gs rs ts hs n f ss).1 ≤ n + f
  | 0, n, ss => by unfold searchF; split <;> simp <;> omega
  | f + 1, n, ss => by
    unfold searchF
    split
    · simp; omega
    · have := search_bd gs rs ts hs f (n + 1) (nextF gs rs ss ts hs); omega
set_option maxRecDepth 100000 in
set_option maxHeartbeats 8000000 in
theorem delayEq_any (ga sa ra : Option Addr) (gs : List Gt) (rs : List Ru) (ss : List St) (gc sc rc n : Nat) (ps : Nat → GtP) (o i : Int) (p : Bool) (w : World) (hn : gs.length = n) (hok : SetOk w ⟨ga, gs, gc, ps, ra, rs, rc⟩) (hss : RowsL (fun _ s => stL s) 3 w sa ss) (ls : ss.length = n) :
    Calls Tryz.prog 24 #[.agg #[.slice ga n gc, .slice ra rs.length rc], .slice sa n sc, .int .i64 o, .int .i64 i, .bool p] w fun e w' => e = .returned (.tuple #[.int .i64 (delayP gs rs ss o i p).1, .int .i64 (delayP gs rs ss o i p).2]) ∧ Below w.heap.size w w' := by
  have HE := hid (show delayP gs rs ss o i p = if (setP gs rs).2.2 ≠ 0 then (0, (setP gs rs).2.2) else if stsP gs ss (List.replicate n (toCloseT o i p)) n ≠ 0 then (0, stsP gs ss (List.replicate n (toCloseT o i p)) n) else (upq (searchF gs rs (List.replicate n (toCloseT o i p)) (List.replicate n false) 0 2000 ss).1 10, (searchF gs rs (List.replicate n (toCloseT o i p)) (List.replicate n false) 0 2000 ss).2) by unfold delayP; rw [hn])
  have HGd := hid (fun h => setGood (gs := gs) (rs := rs) h)
  have HOk := hid hok; have HSs := hid hss; have HLg := hid hn; have HLs := hid ls
  have B1 : Below w.heap.size w (w.alloc (.cells #[.slice ga n gc, .slice ra rs.length rc] 60)) := (Below.refl _ _).alloc (Nat.le_refl _) _
  have z0 : (w.alloc (.cells #[.slice ga n gc, .slice ra rs.length rc] 60)).cell? ⟨w.heap.size, 0, none⟩ = some (.slice ga n gc) := by simp [go_sem]
  have z1 : (w.alloc (.cells #[.slice ga n gc, .slice ra rs.length rc] 60)).cell? ⟨w.heap.size, 1, none⟩ = some (.slice ra rs.length rc) := by simp [go_sem]
  have sw : w.heap.size < (w.alloc (.cells #[.slice ga n gc, .slice ra rs.length rc] 60)).heap.size := by simp
  have HC := hid (fun W (hW : Below w.heap.size w W) => checkSet_any ⟨ga, gs, gc, ps, ra, rs, rc⟩ W (HOk.out.later hW (Nat.le_refl _)))
  dsimp only at HC
  rw [hn] at HC
  clear hok hss hn ls
  obtain ⟨i0, hi, hz0, hz1, hz2⟩ := info_parts Tryz.infoBool
  go_enter Tryz.func24, Tryz.ntmps24
  go_wp2_with fail
  generalize World.alloc w _ = W1 at *
  refine (HC.out _ B1).mono ?_
  rintro e w1 ⟨rfl, hb⟩
  obtain ⟨BW, z0, z1, sw⟩ := keepDl hb ⟨B1, z0, z1, sw⟩
  clear HC B1 hb
  generalize setP gs rs = x at *
  by_cases hx : x.2.2 = 0
  · have q : (x.2.2 != 0) = false := by simp [hx]
    have HX := hid hx
    have HG := hid (HGd.out hx)
    have hn16 : 1 ≤ n ∧ n ≤ 6 := by have := HG.out.glen; rw [HLg.out] at this; exact this
    have HN := hid hn16
    clear hx
    go_wp2_with fail
    refine wp_region_noPanic ?_
    refine wp_region_held_drew (S := (fun w' => Below w.heap.size w w' ∧ w'.cell? ⟨w.heap.size, 0, none⟩ = some (.slice ga n gc) ∧ w'.cell? ⟨w.heap.size, 1, none⟩ = some (.slice ra rs.length rc) ∧ w.heap.size < w'.heap.size)) (by kernel_rfl) ?_ (fun hHeld => ?_)
    · exact ⟨BW.drew, by simpa using z0, by simpa using z1, by simpa using sw⟩
    refine wpAnyH_take (i := 0) (oi := { dst := _, op := _, type := _, pos := _, after := _, guard := _ }) (v := ?_) rfl (by kernel_rfl) (by kernel_rfl) (by kernel_rfl) (fun _ _ _ h => h) (Or.inl ⟨by rfl, ?_⟩) (by assumption) ?_
    rotate_left
    · intro wS hSw; (try dsimp only at hSw); go_simp; try (with_reducible rfl)
    try simp only [Act.put, List.setIfInBounds_toArray, List.set_cons_zero, List.set_cons_succ]
    refine wpAnyH_take (i := 1) (oi := { dst := _, op := _, type := _, pos := _, after := _, guard := _ }) (v := ?_) rfl (by kernel_rfl) (by kernel_rfl) (by kernel_rfl) (fun _ _ _ h => h) (Or.inl ⟨by rfl, ?_⟩) (by assumption) ?_
    rotate_left
    · intro wS hSw; (try dsimp only at hSw); go_simp; try (with_reducible rfl)
    try simp only [Act.put, List.setIfInBounds_toArray, List.set_cons_zero, List.set_cons_succ]
    refine wpAnyH_take (i := 2) (oi := { dst := _, op := _, type := _, pos := _, after := _, guard := _ }) (v := ?_) rfl (by kernel_rfl) (by kernel_rfl) (by kernel_rfl) (fun _ _ _ h => h) (Or.inl ⟨by rfl, ?_⟩) (by assumption) ?_
    rotate_left
    · intro wS hSw; (try dsimp only at hSw); go_simp; try (with_reducible rfl)
    try simp only [Act.put, List.setIfInBounds_toArray, List.set_cons_zero, List.set_cons_succ]
    refine wpAnyH_take (i := 5) (oi := { dst := _, op := _, type := _, pos := _, after := _, guard := _ }) (v := ?_) rfl (by kernel_rfl) (by kernel_rfl) (by kernel_rfl) (fun _ _ _ h => h) (Or.inl ⟨by rfl, ?_⟩) (by assumption) ?_
    rotate_left
    · intro wS hSw; (try dsimp only at hSw); go_simp; try (with_reducible rfl)
    try simp only [Act.put, List.setIfInBounds_toArray, List.set_cons_zero, List.set_cons_succ]
    refine wpAnyH_take (i := 6) (oi := { dst := _, op := _, type := _, pos := _, after := _, guard := _ }) (v := ?_) rfl (by kernel_rfl) (by kernel_rfl) (by kernel_rfl) (fun _ _ _ h => h) (Or.inl ⟨by rfl, ?_⟩) (by assumption) ?_
    rotate_left
    · intro wS hSw; (try dsimp only at hSw); go_simp; try (with_reducible rfl)
    try simp only [Act.put, List.setIfInBounds_toArray, List.set_cons_zero, List.set_cons_succ]
    refine wpAnyH_take (i := 7) (oi := { dst := _, op := _, type := _, pos := _, after := _, guard := _ }) (v := ?_) rfl (by kernel_rfl) (by kernel_rfl) (by kernel_rfl) (fun _ _ _ h => h) (Or.inl ⟨by rfl, ?_⟩) (by assumption) ?_
    rotate_left
    · intro wS hSw; (try dsimp only at hSw); go_simp; try (with_reducible rfl)
    try simp only [Act.put, List.setIfInBounds_toArray, List.set_cons_zero, List.set_cons_succ]
    refine wpAnyH_ready (rs := [3]) (by kernel_rfl) (by simp) ?_
    refine AllReadyH.cons (o := { dst := _, op := _, type := _, pos := _, after := _, guard := _ }) rfl (fun K hK => ?_) AllReadyH.nil
    go_simp
    (go_at_call 45; (with_reducible refine (toClose_any o i p _).mono ?_); rintro e w' ⟨rfl, hbe⟩; have HRb := hid (range_alloc w' (spL (toCloseT o i p)) 35))
    try go_wp2_with fail
    refine hK.out _ _ ?_ (fun hHeld => ?_)
    · (try dsimp only); first | exact keepDl (by assumption) hHeld | exact keepDl ((Below.refl _ _).alloc (Nat.le_refl _) _) hHeld
    clear hK K
    try simp only [Act.put, List.setIfInBounds_toArray, List.set_cons_zero, List.set_cons_succ]
    refine wpAnyH_ready (rs := [4]) (by kernel_rfl) (by simp) ?_
    refine AllReadyH.cons (o := { dst := _, op := _, type := _, pos := _, after := _, guard := _ }) rfl (fun K hK => ?_) AllReadyH.nil
    go_simp
    refine hK.out _ _ ?_ (fun hHeld => ?_)
    · (try dsimp only); first | exact keepDl (by assumption) hHeld | exact keepDl ((Below.refl _ _).alloc (Nat.le_refl _) _) hHeld
    clear hK K
    try simp only [Act.put, List.setIfInBounds_toArray, List.set_cons_zero, List.set_cons_succ]
    refine wpAnyH_ready (rs := [8]) (by kernel_rfl) (by simp) ?_
    refine AllReadyH.cons (o := { dst := _, op := _, type := _, pos := _, after := _, guard := _ }) rfl (fun K hK => ?_) AllReadyH.nil
    go_simp
    (go_at_call 58; obtain ⟨V, hV⟩ : ∃ V, V = w' := ⟨_, rfl⟩; subst hV; refine (repeat_any V.heap.size n (toCloseT o i p) _ hn16 (by simp) HRb.out).mono ?_; rintro e w' ⟨A, rfl, hA, hrep, hbe⟩)
    try go_wp2_with fail
    refine hK.out _ _ ?_ (fun hHeld => ?_)
    · (try dsimp only); first | exact keepDl (by assumption) hHeld | exact keepDl ((Below.refl _ _).alloc (Nat.le_refl _) _) hHeld
    clear hK K
    try simp only [Act.put, List.setIfInBounds_toArray, List.set_cons_zero, List.set_cons_succ]
    refine wpAnyH_take (i := 9) (oi := { dst := _, op := _, type := _, pos := _, after := _, guard := _ }) (v := ?_) rfl (by kernel_rfl) (by kernel_rfl) (by kernel_rfl) (fun _ _ _ h => h) (Or.inl ⟨by rfl, ?_⟩) (by assumption) ?_
    rotate_left
    · intro wS hSw; (try dsimp only at hSw); go_simp; try (with_reducible rfl)
    try simp only [Act.put, List.setIfInBounds_toArray, List.set_cons_zero, List.set_cons_succ]
    refine wpAnyH_done (by kernel_rfl) ?_ _
    refine NoPanic.normal ?_

    obtain ⟨BW2, y0, y1, sw2⟩ := (by assumption : Below w.heap.size w _ ∧ _ ∧ _ ∧ _)
    obtain ⟨W4, hW4⟩ : ∃ X, X = w' := ⟨_, rfl⟩
    subst hW4
    have HTs := hid (rows_rep hA hrep)
    obtain ⟨t, ht⟩ : ∃ t, toCloseT o i p = t := ⟨_, rfl⟩
    rw [ht] at HTs HE
    clear z0 z1 sw hrep HRb hbe hHeld ht BW hA
    go_wp2_with (at_make; refine wpList_make_full _ rfl _ _ _ rfl W4.heap.size 4 i0 (.bool false) 1 Tryz.underlying61 hi hz0 hz1 .i64 .i64 _ _ n rfl rfl rfl rfl (by rw [hz2]; omega) (by unfold maxLen; omega) (Nat.le_refl _) ?_; intro W5 hown hgrow; have x0 : W5.cell? ⟨w.heap.size, 0, none⟩ = some (.slice ga n gc) := hgrow.cell y0 (by simp); have x1 : W5.cell? ⟨w.heap.size, 1, none⟩ = some (.slice ra rs.length rc) := hgrow.cell y1 (by simp))
    have B5 : Below W4.heap.size W4 W5 := (Below.refl _ _).grown hgrow (Nat.le_refl _) (by intro k e; cases e)
    have BW5 := BW2.trans (B5.mono BW2.size)
    have S5 : W4.heap.size < W5.heap.size := (hown.lt _ rfl).2
    have HHs := hid (rows_no (n := n) S5 (fun j hj => by rw [hown.cellAt j (by omega), show (Value.bool false).cells = #[Value.bool false] from rfl, toList_madeCells_one, Nat.mul_one, List.getElem?_replicate, if_pos hj]))
    have HT5 := hid (HTs.out.later B5 (Nat.le_refl _))
    generalize W4.heap.size = C at *
    clear hown hgrow hi hz0 hz1 hz2 B5 BW2 y0 y1 HTs
    have sw5 := Nat.lt_of_lt_of_le sw2 (Nat.le_refl _)
    refine (stepsErrorEq_any ga sa (some ⟨A, 0, none⟩) (some ⟨C, 0, none⟩) ra gs rs ss (List.replicate n t) gc sc n n rc n ps W5 HLg.out (by omega) (HOk.out.gates.at_.later BW5 (Nat.le_refl _)) (HSs.out.later BW5 (Nat.le_refl _)) HT5.out HLs.out (by simp)).mono ?_
    rintro e w6 ⟨rfl, hb6⟩
    obtain ⟨BW6, v0, v1, -⟩ := keepDl hb6 ⟨BW5, x0, x1, by omega⟩
    have HT6 := hid (HT5.out.later hb6 (Nat.le_refl _))
    have HH6 := hid (HHs.out.later hb6 (Nat.le_refl _))
    clear x0 x1 hb6 HT5 HHs
    have HGs := hid (fun h => stsGood (gs := gs) (ss := ss) (ts := List.replicate n t) HLg.out HLs.out (by simp) h)
    generalize stsP gs ss (List.replicate n t) n = y at *
    by_cases hy : y = 0
    · have q2 : (y != 0) = false := by simp [hy]
      have HY := hid hy
      have HSS := hid (stepsToShut_any ga sa (some ⟨A, 0, none⟩) (some ⟨C, 0, none⟩) ra gs rs ss (List.replicate n t) (List.replicate n false) gc sc n n rc n ps w6 HLg.out (HOk.out.gates.at_.later BW6 (Nat.le_refl _)) (fun i h => (HOk.out.gates.ok i h).later BW6 (Nat.le_refl _)) (HOk.out.rules.later BW6 (Nat.le_refl _)) (HSs.out.later BW6 (Nat.le_refl _)) HT6.out HH6.out HLs.out (by simp) (by simp) HG.out (fun i hi => (HGs.out hy i hi).1) (fun i hi => (HGs.out hy i hi).2))
      have hsb := search_bd gs rs (List.replicate n t) (List.replicate n false) 2000 0 ss
      generalize searchF gs rs (List.replicate n t) (List.replicate n false) 0 2000 ss = r at *
      have HU := hid (fun W => roundUp_any r.1 10 W ⟨by omega, by omega⟩ (by decide))
      clear hy hsb
      go_wp2_with fail
      refine (HSS.out).mono ?_
      rintro e w7 ⟨rfl, hb7⟩
      have BW7 := BW6.trans (hb7.mono BW6.size)
      clear v0 v1 hb7
      go_wp2_with ((with_reducible refine (HU.out _).mono ?_); rintro e w' ⟨rfl, rfl⟩)
      go_ret2
      exact ⟨ret_two (by rw [HE.out, if_neg (by simp [HX.out]), if_neg (by simp [HY.out])]) (by rw [HE.out, if_neg (by simp [HX.out]), if_neg (by simp [HY.out])]), BW7⟩
    · have q2 : (y != 0) = true := by simp [hy]
      have HY := hid hy
      clear hy
      go_wp2_with fail
      go_ret2
      exact ⟨ret_two (by rw [HE.out, if_neg (by simp [HX.out]), if_pos HY.out]) (by rw [HE.out, if_neg (by simp [HX.out]), if_pos HY.out]), BW6⟩
  · have q : (x.2.2 != 0) = true := by simp [hx]
    have HX := hid hx
    clear hx
    go_wp2_with fail
    go_ret2
    exact ⟨ret_two (by rw [HE.out, if_pos HX.out]) (by rw [HE.out, if_pos HX.out]), BW⟩
end Go.Proofs.YtdoklolinbmhpaaGreat
