/- Base, part UI: a drawn region whose operations make memory and leave values of a kind, in whatever order: by an invariant. -/
import Derived.Test.YtdoklolinbmhpaaGreatUA
import Derived.Deep.RegionHeld3
import Derived.StillTail
set_option linter.all false
namespace Go.Proofs.YtdoklolinbmhpaaGreat
open Go.RowKit

section
variable {P : Program} {ops : Array Oper} {md : Region.Mode} {S : World → Prop} {Q : Exit → Act → World → Prop}

/-- A slot that no operation that is still to come leaves its value in. -/
def OutSlot (ops : Array Oper) (d0 : Array Bool) (t : Nat) : Prop := ∀ i o, ops[i]? = some o → d0.getD i true = false → o.dst ≠ some t
/-- What a state shows of the one in which the walk of the rest begins. -/
structure InvS (ops : Array Oper) (V : Nat → Value → World → Prop) (a0 : Act) (d0 d : Array Bool) (a : Act) (w : World) : Prop where
  defers : a.defers = a0.defers
  size : a.tmps.size = a0.tmps.size
  out : ∀ t, OutSlot ops d0 t → a.tmps[t]? = a0.tmps[t]?
  vals : ∀ i o t, ops[i]? = some o → d0.getD i true = false → d.getD i false = true → o.dst = some t → ∃ v, a.tmps[t]? = some v ∧ V i v w
/-- The operations' slots are there, each for one of them alone; each waits for such as stand before it. -/
def regionOk (md : Region.Mode) (ops : Array Oper) (d0 : Array Bool) (n : Nat) : Bool :=
  (List.range ops.size).all fun i => (d0.getD i true) || match ops[i]? with
    | none => true
    | some o => o.guard.isNone && (match o.dst with | none => true | some t => decide (t < n) && (List.range ops.size).all fun j => j == i || d0.getD j true || match ops[j]? with | none => true | some q => !(q.dst == some t))
      && o.after.toList.all fun e => !Region.binds md e || decide (e.on < i)
theorem regionOk_spec {d0 : Array Bool} {n : Nat} (h : regionOk md ops d0 n = true) {i : Nat} {o : Oper} (ho : ops[i]? = some o) (hd : d0.getD i true = false) :
    o.guard = none ∧ (∀ t, o.dst = some t → t < n ∧ ∀ j q, ops[j]? = some q → d0.getD j true = false → q.dst = some t → j = i) ∧ ∀ e ∈ o.after, Region.binds md e = true → e.on < i := by
  have hi : i < ops.size := (Array.getElem?_eq_some_iff.1 ho).1
  have h1 := List.all_eq_true.1 h i (List.mem_range.2 hi)
  rw [hd, ho] at h1
  simp only [Bool.false_or, Bool.and_eq_true] at h1
  obtain ⟨⟨h2, h3⟩, h4⟩ := h1
  refine ⟨by simpa using h2, fun t ht => ?_, fun e he hbd => ?_⟩
  · rw [ht] at h3
    simp only [Bool.and_eq_true, decide_eq_true_eq] at h3
    refine ⟨h3.1, fun j q hq hdj hqt => ?_⟩
    have hj : j < ops.size := (Array.getElem?_eq_some_iff.1 hq).1
    have := List.all_eq_true.1 h3.2 j (List.mem_range.2 hj)
    simpa [hdj, hq, hqt] using this
  · have := List.all_eq_true.1 h4 e (by simpa using he)
    simpa [hbd] using this

theorem InvS.step {V : Nat → Value → World → Prop} {a0 a : Act} {d0 d : Array Bool} {w w' : World} {i : Nat} {o : Oper} {v : Value} (hok : regionOk md ops d0 a0.tmps.size = true)
    (hst : ∀ i v w w', V i v w → Below w.heap.size w w' → V i v w') (h : InvS ops V a0 d0 d a w) (ho : ops[i]? = some o) (hd : d0.getD i true = false) (hb : Below w.heap.size w w') (hv : V i v w') :
    InvS ops V a0 d0 (d.setIfInBounds i true) (a.put o.dst v) w' := by
  obtain ⟨_, hdst, _⟩ := regionOk_spec hok ho hd
  have hsz : (a.put o.dst v).tmps.size = a0.tmps.size := by
    rw [← h.size]
    unfold Act.put
    split <;> simp
  refine ⟨?_, hsz, fun t ht => ?_, fun j q t hq hdj hdn hqt => ?_⟩
  · rw [← h.defers]; unfold Act.put; split <;> rfl
  · rw [← h.out t ht]
    unfold Act.put
    split
    · rename_i s hs
      have hne : s ≠ t := fun e => ht i o ho hd (by rw [hs, e])
      simp [Array.getElem?_setIfInBounds, hne]
    · rfl
  · by_cases hji : j = i
    · subst hji
      obtain rfl : o = q := Option.some.inj (ho.symm.trans hq)
      refine ⟨v, ?_, hv⟩
      have ht := (hdst t hqt).1
      unfold Act.put
      rw [hqt]
      have : t < a.tmps.size := by rw [h.size]; exact ht
      simp [Array.getElem?_setIfInBounds, this]
    · have hdn' : d.getD j false = true := by
        rw [getD_set_ne false (Ne.symm hji)] at hdn; exact hdn
      obtain ⟨u, hu, hVu⟩ := h.vals j q t hq hdj hdn' hqt
      refine ⟨u, ?_, hst _ _ _ _ hVu hb⟩
      rw [← hu]
      unfold Act.put
      split
      · rename_i s hs
        have hne : s ≠ t := fun e => hji ((hdst s hs).2 j q hq hdj (by rw [hqt, e]))
        simp [Array.getElem?_setIfInBounds, hne]
      · rfl

theorem countP_lt {p q : Nat → Bool} {i : Nat} : ∀ (l : List Nat), (∀ x ∈ l, p x = true → q x = true) → i ∈ l → p i = false → q i = true → l.countP p < l.countP q
  | [], _, h, _, _ => by cases h
  | x :: r, hpq, h, h0, h1 => by
    have hle : r.countP p ≤ r.countP q := List.countP_mono_left fun y hy => hpq y (List.mem_cons_of_mem _ hy)
    rw [List.countP_cons, List.countP_cons]
    rcases List.mem_cons.1 h with rfl | h
    · rw [h0, h1]; simp; omega
    · have := countP_lt r (fun y hy => hpq y (List.mem_cons_of_mem _ hy)) h h0 h1
      have hx := hpq x List.mem_cons_self
      cases hp : p x
      · simp; split <;> omega
      · rw [hx hp]; simp; omega
/-- THE LAW: from a state in which some operations have been taken, all others may come in whatever order. -/
theorem wpAnyH_inv (V : Nat → Value → World → Prop) (a0 : Act) (d0 : Array Bool) (hok : regionOk md ops d0 a0.tmps.size = true) (hd0 : d0.size = ops.size)
    (hst : ∀ i v w w', V i v w → Below w.heap.size w w' → V i v w')
    (step : ∀ i o, ops[i]? = some o → d0.getD i true = false → ∀ d a w, S w → InvS ops V a0 d0 d a w → (∀ e ∈ o.after, Region.binds md e = true → d.getD e.on false = true) →
      o.wp P a w (fun a' w' => ∃ v, a' = a.put o.dst v ∧ V i v w' ∧ S w' ∧ Below w.heap.size w w') Q)
    (fin : ∀ d a w, S w → InvS ops V a0 d0 d a w → (∀ i, i < ops.size → d.getD i false = true) → Q .normal a w) :
    ∀ (fuel : Nat) (d : Array Bool) (a : Act) (w : World), d.size = ops.size → (∀ i, d0.getD i true = true → i < ops.size → d.getD i false = true) → S w → InvS ops V a0 d0 d a w →
      (List.range ops.size).countP (fun i => !d.getD i true) ≤ fuel → wpAnyH P md ops Q S fuel d a w := by
  have done : ∀ (d : Array Bool), d.size = ops.size → (∀ i, d0.getD i true = true → i < ops.size → d.getD i false = true) → Region.ready md ops d = [] → ∀ i, i < ops.size → d.getD i false = true := by
    intro d hs hpre hr i
    induction i using Nat.strongRecOn with
    | _ i ih =>
      intro hi
      by_cases hdi : d.getD i true = false
      · exfalso
        have ho : ops[i]? = some ops[i] := Array.getElem?_eq_getElem hi
        have h0 : d0.getD i true = false := by
          cases hc : d0.getD i true
          · rfl
          · have := hpre i hc hi
            have hlt : i < d.size := by omega
            simp [hlt] at this hdi
            rw [hdi] at this; cases this
        have hm : i ∈ Region.ready md ops d := mem_ready.2 ⟨hdi, ops[i], ho, fun e he hbd => ih e.on ((regionOk_spec hok ho h0).2.2 e he hbd) (by have := (regionOk_spec hok ho h0).2.2 e he hbd; omega)⟩
        rw [hr] at hm; cases hm
      · have hlt : i < d.size := by omega
        simp [hlt] at hdi ⊢
        exact hdi
  intro fuel
  induction fuel with
  | zero =>
    intro d a w hs hpre hS hI hc
    have hr : Region.ready md ops d = [] := by
      cases hq : Region.ready md ops d with
      | nil => rfl
      | cons j r =>
        have hj : j ∈ Region.ready md ops d := by rw [hq]; exact List.mem_cons_self
        obtain ⟨h1, o, ho, _⟩ := mem_ready.1 hj
        have hlt : j < ops.size := (Array.getElem?_eq_some_iff.1 ho).1
        have : 0 < (List.range ops.size).countP (fun i => !d.getD i true) := List.countP_pos_iff.2 ⟨j, List.mem_range.2 hlt, by simp only [h1]; rfl⟩
        omega
    exact ⟨hr, fin d a w hS hI (done d hs hpre hr)⟩
  | succ fuel ih =>
    intro d a w hs hpre hS hI hc
    refine ⟨fun hr => fin d a w hS hI (done d hs hpre hr), fun i hi => ?_⟩
    obtain ⟨hun, o, ho, hall⟩ := mem_ready.1 hi
    have hlt : i < ops.size := (Array.getElem?_eq_some_iff.1 ho).1
    have h0 : d0.getD i true = false := by
      cases hc : d0.getD i true
      · rfl
      · have := hpre i hc hlt
        have hlt' : i < d.size := by omega
        simp [hlt'] at this hun
        rw [hun] at this; cases this
    have hg := (regionOk_spec hok ho h0).1
    unfold wpOp
    simp only [ho]
    have hw : Region.wanted o (yielded ops a.tmps) = true := by simp [Region.wanted, hg]
    rw [if_pos hw]
    refine .inl (Oper.wp_mono (fun a' w' hk => ?_) (step i o ho h0 d a w hS hI hall))
    obtain ⟨v, rfl, hv, hS', hb⟩ := hk
    refine ⟨hS', ih _ _ _ (by simpa using hs) (fun j hj hjl => ?_) hS' (hI.step hok hst ho h0 hb hv) ?_⟩
    · by_cases e : i = j
      · subst e; rw [hj] at h0; cases h0
      · rw [getD_set_ne false e]; exact hpre j hj hjl
    · have : (List.range ops.size).countP (fun k => !(d.setIfInBounds i true).getD k true) < (List.range ops.size).countP (fun k => !d.getD k true) := by
        refine countP_lt _ (fun k _ hk => ?_) (List.mem_range.2 hlt) ?_ ?_
        · by_cases e : i = k
          · subst e
            have hlt' : i < d.size := by omega
            simp [hlt'] at hk
          · rw [getD_set_ne true e] at hk; exact hk
        · have hlt' : i < d.size := by omega
          simp [hlt']
        · simp only [hun]; rfl
      omega
theorem InvS.start {V : Nat → Value → World → Prop} {a0 : Act} {d0 : Array Bool} {w : World} : InvS ops V a0 d0 d0 a0 w :=
  ⟨rfl, rfl, fun _ _ => rfl, fun i o t _ h1 h2 _ => by rw [getD_both h1] at h2; cases h2⟩
theorem wpAnyH_from (V : Nat → Value → World → Prop) {a0 : Act} {d0 : Array Bool} {w0 : World} {fuel : Nat} (n : Nat) (hn : a0.tmps.size = n) (hok : regionOk md ops d0 n = true) (hd0 : d0.size = ops.size)
    (hst : ∀ i v w w', V i v w → Below w.heap.size w w' → V i v w') (hS : S w0) (hf : (List.range ops.size).countP (fun i => !d0.getD i true) ≤ fuel)
    (step : ∀ i o, ops[i]? = some o → d0.getD i true = false → ∀ d a w, S w → InvS ops V a0 d0 d a w → (∀ e ∈ o.after, Region.binds md e = true → d.getD e.on false = true) →
      o.wp P a w (fun a' w' => ∃ v, a' = a.put o.dst v ∧ V i v w' ∧ S w' ∧ Below w.heap.size w w') Q)
    (fin : ∀ d a w, S w → InvS ops V a0 d0 d a w → (∀ i, i < ops.size → d.getD i false = true) → Q .normal a w) : wpAnyH P md ops Q S fuel d0 a0 w0 :=
  wpAnyH_inv V a0 d0 (by rw [hn]; exact hok) hd0 hst step fin fuel d0 a0 w0 hd0 (fun i h1 h2 => by
    have hlt : i < d0.size := by omega
    simp [hlt] at h1 ⊢; exact h1) hS InvS.start hf
theorem eval_of {a : Act} {t : Nat} {v : Value} (h : a.tmps[t]? = some v) : a.eval (.tmp t) = v := by
  show a.tmps.getD t undef = v
  rw [Array.getD_eq_getD_getElem?, h]; rfl
def outB (ops : Array Oper) (d0 : Array Bool) (t : Nat) : Bool := (List.range ops.size).all fun i => (d0.getD i true) || match ops[i]? with | none => true | some o => !(o.dst == some t)
theorem outB_spec {d0 : Array Bool} {t : Nat} (h : outB ops d0 t = true) : OutSlot ops d0 t := fun i o ho hd e => by
  have hi : i < ops.size := (Array.getElem?_eq_some_iff.1 ho).1
  have := List.all_eq_true.1 h i (List.mem_range.2 hi)
  simp [hd, ho, e] at this
theorem InvS.old {V : Nat → Value → World → Prop} {a0 a : Act} {d0 d : Array Bool} {w : World} (h : InvS ops V a0 d0 d a w) {t : Nat} {v : Value} (hout : outB ops d0 t = true) (h0 : a0.tmps[t]? = some v) : a.tmps[t]? = some v :=
  (h.out t (outB_spec hout)).trans h0
theorem InvS.new {V : Nat → Value → World → Prop} {a0 a : Act} {d0 d : Array Bool} {w : World} (h : InvS ops V a0 d0 d a w) {i t : Nat} {o : Oper} (ho : ops[i]? = some o) (hd : d0.getD i true = false) (hn : d.getD i false = true) (ht : o.dst = some t) :
    ∃ v, a.tmps[t]? = some v ∧ V i v w := h.vals i o t ho hd hn ht
/-- The operations that are still to come, as a list. -/
theorem todo_mem {d0 : Array Bool} {l : List Nat} (hl : ((List.range ops.size).filter fun i => !d0.getD i true) = l) {i : Nat} {o : Oper} (ho : ops[i]? = some o) (hd : d0.getD i true = false) : i ∈ l := by
  rw [← hl]
  exact List.mem_filter.2 ⟨List.mem_range.2 (Array.getElem?_eq_some_iff.1 ho).1, by simp only [hd]; rfl⟩
theorem wp_callF {o : Oper} {a : Act} {w : World} {K : Act → World → Prop} {F : FuncId} {args : Array Value} (h : (execOp a.eval o).run P w = .ok (.enter F args) w)
    (hc : Calls P F args w fun e w' => ∃ v, e = .returned v ∧ K (a.put o.dst v) w') : o.wp P a w K Q := by
  unfold Oper.wp
  rw [h, Oper.upon_enter]
  exact hc.mono fun e w' ⟨v, he, hk⟩ => by subst he; exact hk
theorem wp_valF {o : Oper} {a : Act} {w w' : World} {K : Act → World → Prop} {v : Value} (h : (execOp a.eval o).run P w = .ok (.value v) w') (hk : K (a.put o.dst v) w') : o.wp P a w K Q := by
  unfold Oper.wp
  rw [h]
  exact hk
theorem cons_of_len {α : Type} {l : List α} {n : Nat} (h : l.length = n + 1) : ∃ x r, l = x :: r ∧ r.length = n := by
  cases l with
  | nil => cases h
  | cons x r => exact ⟨x, r, rfl, by simpa using h⟩
end
end Go.Proofs.YtdoklolinbmhpaaGreat
