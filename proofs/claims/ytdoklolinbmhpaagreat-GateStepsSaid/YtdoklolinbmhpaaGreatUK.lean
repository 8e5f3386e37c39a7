/- Base, part UJ: a drawn region a part of which may come in whatever order, by an invariant; the rest waits for all of it. -/
import Derived.Test.YtdoklolinbmhpaaGreatUI
import Derived.Test.YtdoklolinbmhpaaGreatVB
set_option linter.all false
namespace Go.Proofs.YtdoklolinbmhpaaGreat
open Go.RowKit

section
variable {P : Program} {ops : Array Oper} {md : Region.Mode} {S : World → Prop} {Q : Exit → Act → World → Prop}

/-- The operations of the part that are still to come. -/
def cntA (ops : Array Oper) (d1 d : Array Bool) : Nat := (List.range ops.size).countP fun i => d1.getD i false && !d.getD i true
/-- What is outside waits for all of the part; what is in it waits for such alone. -/
def partOk (md : Region.Mode) (ops : Array Oper) (d0 d1 : Array Bool) : Bool :=
  (List.range ops.size).all fun i => match ops[i]? with
    | none => true
    | some o =>
      if d1.getD i false then d0.getD i true || o.after.toList.all fun e => !Region.binds md e || d1.getD e.on false
      else (List.range ops.size).all fun j => !d1.getD j false || d0.getD j true || o.after.toList.any fun e => Region.binds md e && e.on == j
theorem partOk_in {d0 d1 : Array Bool} (h : partOk md ops d0 d1 = true) {i : Nat} {o : Oper} (ho : ops[i]? = some o) (h1 : d1.getD i false = true) (h0 : d0.getD i true = false) : ∀ e ∈ o.after, Region.binds md e = true → d1.getD e.on false = true := by
  have hi : i < ops.size := (Array.getElem?_eq_some_iff.1 ho).1
  have := List.all_eq_true.1 h i (List.mem_range.2 hi)
  rw [ho] at this
  simp only [h1, if_true, h0, Bool.false_or] at this
  intro e he hb
  have := List.all_eq_true.1 this e (by simpa using he)
  simpa [hb] using this
theorem partOk_out {d0 d1 : Array Bool} (h : partOk md ops d0 d1 = true) {i : Nat} {o : Oper} (ho : ops[i]? = some o) (h1 : d1.getD i false = false) {j : Nat} (hj1 : d1.getD j false = true) (hj0 : d0.getD j true = false) (hj : j < ops.size) :
    ∃ e ∈ o.after, Region.binds md e = true ∧ e.on = j := by
  have hi : i < ops.size := (Array.getElem?_eq_some_iff.1 ho).1
  have := List.all_eq_true.1 h i (List.mem_range.2 hi)
  rw [ho] at this
  simp only [h1, if_false, Bool.false_eq_true] at this
  have := List.all_eq_true.1 this j (List.mem_range.2 hj)
  simp only [hj1, hj0, Bool.not_true, Bool.false_or] at this
  obtain ⟨e, he, hb⟩ := List.any_eq_true.1 this
  simp only [Bool.and_eq_true, beq_iff_eq] at hb
  exact ⟨e, by simpa using he, hb⟩
theorem countP_one {p q : Nat → Bool} {i : Nat} : ∀ (l : List Nat), l.Nodup → i ∈ l → p i = true → q i = false → (∀ x, x ≠ i → q x = p x) → l.countP q + 1 = l.countP p
  | [], _, h, _, _, _ => by cases h
  | x :: r, hn, h, h0, h1, hx => by
    rw [List.countP_cons, List.countP_cons]
    rw [List.nodup_cons] at hn
    by_cases e : x = i
    · subst e
      have : r.countP q = r.countP p := List.countP_congr fun y hy => by rw [hx y (fun e => hn.1 (e ▸ hy))]
      rw [h0, h1, this]; simp
    · have hr : i ∈ r := by
        rcases List.mem_cons.1 h with h | h
        · exact absurd h.symm e
        · exact h
      have := countP_one r hn.2 hr h0 h1 hx
      rw [hx x e]; omega
/-- What a state shows of the one in which the walk of the part begins. -/
structure InvP (ops : Array Oper) (V : Nat → Value → World → Prop) (a0 : Act) (d0 d : Array Bool) (a : Act) (w : World) : Prop where
  defers : a.defers = a0.defers
  size : a.tmps.size = a0.tmps.size
  out : ∀ t, (∀ i o, ops[i]? = some o → d0.getD i true = false → d.getD i false = true → o.dst ≠ some t) → a.tmps[t]? = a0.tmps[t]?
  vals : ∀ i o t, ops[i]? = some o → d0.getD i true = false → d.getD i false = true → o.dst = some t → ∃ v, a.tmps[t]? = some v ∧ V i v w
theorem InvP.start {V : Nat → Value → World → Prop} {a0 : Act} {d0 : Array Bool} {w : World} : InvP ops V a0 d0 d0 a0 w :=
  ⟨rfl, rfl, fun _ _ => rfl, fun i o t _ h1 h2 _ => by rw [getD_both h1] at h2; cases h2⟩
theorem InvP.step {V : Nat → Value → World → Prop} {a0 a : Act} {d0 d : Array Bool} {w w' : World} {i : Nat} {o : Oper} {v : Value} (hok : regionOk md ops d0 a0.tmps.size = true) (hid : i < d.size)
    (hst : ∀ i v w w', V i v w → Below w.heap.size w w' → V i v w') (h : InvP ops V a0 d0 d a w) (ho : ops[i]? = some o) (hd : d0.getD i true = false) (hb : Below w.heap.size w w') (hv : V i v w') :
    InvP ops V a0 d0 (d.setIfInBounds i true) (a.put o.dst v) w' := by
  obtain ⟨_, hdst, _⟩ := regionOk_spec hok ho hd
  have hsz : (a.put o.dst v).tmps.size = a0.tmps.size := by
    rw [← h.size]
    unfold Act.put
    split <;> simp
  have hset : (d.setIfInBounds i true).getD i false = true := by simp [hid]
  refine ⟨?_, hsz, fun t ht => ?_, fun j q t hq hdj hdn hqt => ?_⟩
  · rw [← h.defers]; unfold Act.put; split <;> rfl
  · rw [← h.out t (fun j q hq hdj hdn => ht j q hq hdj (by
      by_cases e : i = j
      · subst e; exact hset
      · rw [getD_set_ne false e]; exact hdn))]
    unfold Act.put
    split
    · rename_i s hs
      have hne : s ≠ t := fun e => ht i o ho hd hset (by rw [hs, e])
      simp [Array.getElem?_setIfInBounds, hne]
    · rfl
  · by_cases hji : j = i
    · subst hji
      obtain rfl : o = q := Option.some.inj (ho.symm.trans hq)
      refine ⟨v, ?_, hv⟩
      have ht := (hdst t hqt).1
      unfold Act.put
      rw [hqt]
      have : t < a.tmps.size := by rw [h.size]; exact ht
      simp [Array.getElem?_setIfInBounds, this]
    · have hdn' : d.getD j false = true := by
        rw [getD_set_ne false (Ne.symm hji)] at hdn; exact hdn
      obtain ⟨u, hu, hVu⟩ := h.vals j q t hq hdj hdn' hqt
      refine ⟨u, ?_, hst _ _ _ _ hVu hb⟩
      rw [← hu]
      unfold Act.put
      split
      · rename_i s hs
        have hne : s ≠ t := fun e => hji ((hdst s hs).2 j q hq hdj (by rw [hqt, e]))
        simp [Array.getElem?_setIfInBounds, hne]
      · rfl
theorem InvP.old {V : Nat → Value → World → Prop} {a0 a : Act} {d0 d : Array Bool} {w : World} (h : InvP ops V a0 d0 d a w) {t : Nat} {v : Value} (hout : outB ops d0 t = true) (h0 : a0.tmps[t]? = some v) : a.tmps[t]? = some v :=
  (h.out t fun i o ho hd _ => outB_spec hout i o ho hd).trans h0
theorem InvP.new {V : Nat → Value → World → Prop} {a0 a : Act} {d0 d : Array Bool} {w : World} (h : InvP ops V a0 d0 d a w) {i t : Nat} {o : Oper} (ho : ops[i]? = some o) (hd : d0.getD i true = false) (hn : d.getD i false = true) (ht : o.dst = some t) :
    ∃ v, a.tmps[t]? = some v ∧ V i v w := h.vals i o t ho hd hn ht
/-- The part's operations and their slots. -/
def partL (ops : Array Oper) (d0 d1 : Array Bool) : List (Nat × Nat) := (List.range ops.size).filterMap fun i => if d1.getD i false && !d0.getD i true then (ops[i]?.bind (·.dst)).map (i, ·) else none
theorem partL_mem {d0 d1 : Array Bool} {i t : Nat} : (i, t) ∈ partL ops d0 d1 ↔ ∃ o, ops[i]? = some o ∧ d1.getD i false = true ∧ d0.getD i true = false ∧ o.dst = some t := by
  unfold partL
  rw [List.mem_filterMap]
  constructor
  · rintro ⟨j, hj, h⟩
    split at h
    · rename_i hc
      simp only [Bool.and_eq_true, Bool.not_eq_true'] at hc
      cases ho : ops[j]? with
      | none => simp [ho] at h
      | some o =>
        cases hd : o.dst with
        | none => simp [ho, hd] at h
        | some s =>
          simp only [ho, Option.bind_some, hd, Option.map_some, Option.some.injEq, Prod.mk.injEq] at h
          obtain ⟨rfl, rfl⟩ := h
          exact ⟨o, ho, hc.1, hc.2, hd⟩
    · cases h
  · rintro ⟨o, ho, h1, h0, hd⟩
    refine ⟨i, List.mem_range.2 (Array.getElem?_eq_some_iff.1 ho).1, ?_⟩
    rw [if_pos (by simp only [h1, h0]; rfl), ho]
    simp [hd]
def putL (a : Act) (vs : Nat → Value) : List (Nat × Nat) → Act
  | [] => a
  | p :: r => putL (a.put (some p.2) (vs p.2)) vs r
theorem putL_spec (vs : Nat → Value) : ∀ (l : List (Nat × Nat)) (a : Act), (putL a vs l).defers = a.defers ∧ (putL a vs l).tmps.size = a.tmps.size ∧ (∀ t, (∀ p ∈ l, p.2 ≠ t) → (putL a vs l).tmps[t]? = a.tmps[t]?) ∧ ∀ t, t < a.tmps.size → (∃ p ∈ l, p.2 = t) → (putL a vs l).tmps[t]? = some (vs t)
  | [], a => ⟨rfl, rfl, fun _ _ => rfl, fun t _ ⟨p, hp, _⟩ => by cases hp⟩
  | p :: r, a => by
    obtain ⟨h1, h2, h3, h4⟩ := putL_spec vs r (a.put (some p.2) (vs p.2))
    have hs : (a.put (some p.2) (vs p.2)).tmps.size = a.tmps.size := by simp [Act.put]
    refine ⟨h1, h2.trans hs, fun t ht => ?_, fun t hlt ht => ?_⟩
    · refine (h3 t fun q hq => ht q (List.mem_cons_of_mem _ hq)).trans ?_
      have := ht p List.mem_cons_self
      simp [Act.put, Array.getElem?_setIfInBounds, this]
    · by_cases hr : ∃ q ∈ r, q.2 = t
      · exact h4 t (by rw [hs]; exact hlt) hr
      · have hn : ∀ q ∈ r, q.2 ≠ t := fun q hq e => hr ⟨q, hq, e⟩
        obtain ⟨q, hq, e⟩ := ht
        have hp : p.2 = t := by
          rcases List.mem_cons.1 hq with rfl | hq
          · exact e
          · exact absurd e (hn q hq)
        refine (h3 t hn).trans ?_
        subst hp
        simp [Act.put, Array.getElem?_setIfInBounds, hlt]
/-- The state behind the part is the one before it with the part's values put. -/
theorem InvP.canon {V : Nat → Value → World → Prop} {a0 a : Act} {d0 d1 : Array Bool} {w : World} (h : InvP ops V a0 d0 d1 a w) : ∃ vs : Nat → Value, a = putL a0 vs (partL ops d0 d1) ∧ ∀ p ∈ partL ops d0 d1, V p.1 (vs p.2) w := by
  refine ⟨fun t => a.tmps.getD t undef, ?_, fun p hp => ?_⟩
  · obtain ⟨h1, h2, h3, h4⟩ := putL_spec (fun t => a.tmps.getD t undef) (partL ops d0 d1) a0
    have ht : a.tmps = (putL a0 (fun t => a.tmps.getD t undef) (partL ops d0 d1)).tmps := by
      refine Array.ext (by rw [h2, h.size]) fun t ht1 ht2 => ?_
      have key : a.tmps[t]? = (putL a0 (fun t => a.tmps.getD t undef) (partL ops d0 d1)).tmps[t]? := by
        by_cases hm : ∃ p ∈ partL ops d0 d1, p.2 = t
        · rw [h4 t (by rw [← h.size]; exact ht1) hm]; simp [ht1]
        · rw [h3 t fun p hp e => hm ⟨p, hp, e⟩]
          exact h.out t fun i o ho hd0 hd1 e => hm ⟨(i, t), partL_mem.2 ⟨o, ho, hd1, hd0, e⟩, rfl⟩
      rw [Array.getElem?_eq_getElem ht1, Array.getElem?_eq_getElem ht2] at key
      exact Option.some.inj key
    have hd := h.defers.trans h1.symm
    cases a
    cases hh : putL a0 _ (partL ops d0 d1)
    rw [hh] at ht hd
    simp only at ht hd
    subst ht hd
    rfl
  · obtain ⟨i, t⟩ := p
    obtain ⟨o, ho, hd1, hd0, hdst⟩ := partL_mem.1 hp
    obtain ⟨v, hv, hV⟩ := h.vals i o t ho hd0 hd1 hdst
    show V i (a.tmps.getD t undef) w
    rw [Array.getD_eq_getD_getElem?, hv]; exact hV
/-- THE LAW: a part of a region may come in whatever order. -/
theorem wpAnyH_part (V : Nat → Value → World → Prop) (a0 : Act) (d0 d1 : Array Bool) (f : Nat) (hok : regionOk md ops d0 a0.tmps.size = true) (hpo : partOk md ops d0 d1 = true) (hd1 : d1.size = ops.size)
    (h01 : ∀ i, d0.getD i true = true → i < ops.size → d1.getD i false = true)
    (hst : ∀ i v w w', V i v w → Below w.heap.size w w' → V i v w')
    (step : ∀ i o, ops[i]? = some o → d0.getD i true = false → d1.getD i false = true → ∀ d a w, S w → InvP ops V a0 d0 d a w → (∀ e ∈ o.after, Region.binds md e = true → d.getD e.on false = true) →
      o.wp P a w (fun a' w' => ∃ v, a' = a.put o.dst v ∧ V i v w' ∧ S w' ∧ Below w.heap.size w w') Q)
    (fin : ∀ a w, S w → InvP ops V a0 d0 d1 a w → wpAnyH P md ops Q S f d1 a w) :
    ∀ (n : Nat) (d : Array Bool) (a : Act) (w : World), d.size = ops.size → (∀ i, d0.getD i true = true → i < ops.size → d.getD i false = true) → (∀ i, d.getD i false = true → d1.getD i false = true) → S w → InvP ops V a0 d0 d a w →
      cntA ops d1 d = n → wpAnyH P md ops Q S (n + f) d a w := by
  intro n
  induction n with
  | zero =>
    intro d a w hs hpre hsub hS hI hc
    have hall : ∀ i, i < ops.size → d.getD i false = d1.getD i false := by
      intro i hi
      cases h1 : d1.getD i false
      · cases h : d.getD i false
        · rfl
        · have := hsub i h; rw [h1] at this; cases this
      · cases h : d.getD i false
        · exfalso
          have : 0 < cntA ops d1 d := List.countP_pos_iff.2 ⟨i, List.mem_range.2 hi, by
            have hlt : i < d.size := by omega
            have : d.getD i true = false := by simp [hlt] at h ⊢; exact h
            simp only [h1, this]; rfl⟩
          omega
        · rfl
    have e : d = d1 := by
      refine Array.ext (by omega) fun i h1 h2 => ?_
      have := hall i (by omega)
      simpa [h1, h2] using this
    subst e
    rw [Nat.zero_add]
    exact fin a w hS hI
  | succ n ih =>
    intro d a w hs hpre hsub hS hI hc
    have hlow : ∃ i, i < ops.size ∧ d1.getD i false = true ∧ d.getD i true = false := by
      have : 0 < cntA ops d1 d := by omega
      obtain ⟨i, hi, h⟩ := List.countP_pos_iff.1 this
      simp only [Bool.and_eq_true, Bool.not_eq_true'] at h
      exact ⟨i, List.mem_range.1 hi, h⟩
    have hd0 : ∀ i, i < ops.size → d.getD i true = false → d0.getD i true = false := by
      intro i hi h
      cases h0 : d0.getD i true
      · rfl
      · have := hpre i h0 hi
        have hlt : i < d.size := by omega
        simp [hlt] at this h
        rw [h] at this; cases this
    -- the least one that is still to come may come now
    have hready : Region.ready md ops d ≠ [] := by
      have key : ∀ i, i < ops.size → d1.getD i false = true → d.getD i true = false → Region.ready md ops d ≠ [] := by
        intro i
        induction i using Nat.strongRecOn with
        | _ i ihi =>
          intro hi h1 h
          have ho : ops[i]? = some ops[i] := Array.getElem?_eq_getElem hi
          have h0 := hd0 i hi h
          by_cases hall : ∀ e ∈ ops[i].after, Region.binds md e = true → d.getD e.on false = true
          · intro hr
            have : i ∈ Region.ready md ops d := mem_ready.2 ⟨h, ops[i], ho, hall⟩
            rw [hr] at this; cases this
          · have : ∃ e ∈ ops[i].after, Region.binds md e = true ∧ ¬ d.getD e.on false = true := by
              refine Classical.byContradiction fun hne => hall fun e he hb => ?_
              refine Classical.byContradiction fun hn => hne ⟨e, he, hb, hn⟩
            obtain ⟨e, he, hb, hn⟩ := this
            have hlt := (regionOk_spec hok ho h0).2.2 e he hb
            have hin := partOk_in hpo ho h1 h0 e he hb
            refine ihi e.on hlt (by omega) hin ?_
            have hl : e.on < d.size := by omega
            simp [hl] at hn ⊢
            exact hn
      obtain ⟨i, hi, h1, h⟩ := hlow
      exact key i hi h1 h
    rw [show n + 1 + f = (n + f) + 1 by omega]
    refine ⟨fun hr => absurd hr hready, fun i hi => ?_⟩
    obtain ⟨hun, o, ho, hall⟩ := mem_ready.1 hi
    have hlt : i < ops.size := (Array.getElem?_eq_some_iff.1 ho).1
    have h0 := hd0 i hlt hun
    have h1 : d1.getD i false = true := by
      cases h1 : d1.getD i false
      · exfalso
        obtain ⟨j, hj, hj1, hj0⟩ := hlow
        obtain ⟨e, he, hb, rfl⟩ := partOk_out hpo ho h1 hj1 (hd0 j hj hj0) hj
        have := hall e he hb
        have hl : e.on < d.size := by omega
        simp [hl] at this hj0
        rw [hj0] at this; cases this
      · rfl
    have hg := (regionOk_spec hok ho h0).1
    unfold wpOp
    simp only [ho]
    have hw : Region.wanted o (yielded ops a.tmps) = true := by simp [Region.wanted, hg]
    rw [if_pos hw]
    refine .inl (Oper.wp_mono (fun a' w' hk => ?_) (step i o ho h0 h1 d a w hS hI hall))
    obtain ⟨v, rfl, hv, hS', hb⟩ := hk
    refine ⟨hS', ih _ _ _ (by simpa using hs) (fun j hj hjl => ?_) (fun j hj => ?_) hS' (hI.step hok (by have := (Array.getElem?_eq_some_iff.1 ho).1; omega) hst ho h0 hb hv) ?_⟩
    · by_cases e : i = j
      · subst e; rw [hj] at h0; cases h0
      · rw [getD_set_ne false e]; exact hpre j hj hjl
    · by_cases e : i = j
      · subst e; exact h1
      · rw [getD_set_ne false e] at hj; exact hsub j hj
    · have hdl : i < d.size := by omega
      have := countP_one (p := fun k => d1.getD k false && !d.getD k true) (q := fun k => d1.getD k false && !(d.setIfInBounds i true).getD k true) (i := i) (List.range ops.size) List.nodup_range (List.mem_range.2 hlt) (by simp only [h1, hun]; rfl) (by simp [hdl]) (fun x hx => by rw [getD_set_ne true (Ne.symm hx)])
      unfold cntA at hc ⊢
      omega
theorem wpAnyH_partFrom (V : Nat → Value → World → Prop) {a0 : Act} {d0 : Array Bool} (d1 : Array Bool) {w0 : World} {fuel : Nat} (k n f : Nat) (hfu : fuel = n + f) (hk : a0.tmps.size = k) (hok : regionOk md ops d0 k = true) (hpo : partOk md ops d0 d1 = true) (hd0 : d0.size = ops.size) (hd1 : d1.size = ops.size)
    (h01 : ((List.range ops.size).all fun i => !d0.getD i true || d1.getD i false) = true) (h02 : ((List.range ops.size).all fun i => !d0.getD i false || d1.getD i false) = true)
    (hst : ∀ i v w w', V i v w → Below w.heap.size w w' → V i v w') (hS : S w0) (hn : cntA ops d1 d0 = n)
    (step : ∀ i o, ops[i]? = some o → d0.getD i true = false → d1.getD i false = true → ∀ d a w, S w → InvP ops V a0 d0 d a w → (∀ e ∈ o.after, Region.binds md e = true → d.getD e.on false = true) →
      o.wp P a w (fun a' w' => ∃ v, a' = a.put o.dst v ∧ V i v w' ∧ S w' ∧ Below w.heap.size w w') Q)
    (l : List (Nat × Nat)) (hl : partL ops d0 d1 = l)
    (fin : ∀ vs w, S w → (∀ p ∈ l, V p.1 (vs p.2) w) → wpAnyH P md ops Q S f d1 (putL a0 vs l) w) : wpAnyH P md ops Q S fuel d0 a0 w0 := by
  subst hfu
  subst hl
  refine wpAnyH_part V a0 d0 d1 f (by rw [hk]; exact hok) hpo hd1 (fun i h hi => ?_) hst step (fun a w hS hI => by obtain ⟨vs, e, hv⟩ := hI.canon; rw [e]; exact fin vs w hS hv) n d0 a0 w0 hd0 (fun i h1 h2 => by
    have hlt : i < d0.size := by omega
    simp [hlt] at h1 ⊢; exact h1) (fun i h => ?_) hS InvP.start hn
  · have := List.all_eq_true.1 h01 i (List.mem_range.2 hi)
    simpa [h] using this
  · have hlt : i < ops.size := by
      rcases Nat.lt_or_ge i d0.size with hl | hl
      · omega
      · simp [Array.getElem?_eq_none hl] at h
    have := List.all_eq_true.1 h02 i (List.mem_range.2 hlt)
    simp only [h, Bool.not_true, Bool.false_or] at this
    exact this
end
end Go.Proofs.YtdoklolinbmhpaaGreat

set_option linter.all false
namespace Go.Proofs.YtdoklolinbmhpaaGreat
open Go.RowKit

section
variable {P : Program} {ops : Array Oper} {md : Region.Mode} {S : World → Prop} {Q : Exit → Act → World → Prop}

/-- What is outside waits for all of the part but some; what is in it waits for such alone. -/
def partOkX (md : Region.Mode) (ops : Array Oper) (d0 d1 : Array Bool) (xs : List Nat) : Bool :=
  (List.range ops.size).all fun i => match ops[i]? with
    | none => true
    | some o =>
      if d1.getD i false then d0.getD i true || o.after.toList.all fun e => !Region.binds md e || d1.getD e.on false
      else (List.range ops.size).all fun j => xs.contains j || !d1.getD j false || d0.getD j true || o.after.toList.any fun e => Region.binds md e && e.on == j
theorem partOkX_in {d0 d1 : Array Bool} {xs : List Nat} (h : partOkX md ops d0 d1 xs = true) {i : Nat} {o : Oper} (ho : ops[i]? = some o) (h1 : d1.getD i false = true) (h0 : d0.getD i true = false) : ∀ e ∈ o.after, Region.binds md e = true → d1.getD e.on false = true := by
  have hi : i < ops.size := (Array.getElem?_eq_some_iff.1 ho).1
  have := List.all_eq_true.1 h i (List.mem_range.2 hi)
  rw [ho] at this
  simp only [h1, if_true, h0, Bool.false_or] at this
  intro e he hb
  have := List.all_eq_true.1 this e (by simpa using he)
  simpa [hb] using this
theorem partOkX_out {d0 d1 : Array Bool} {xs : List Nat} (h : partOkX md ops d0 d1 xs = true) {i : Nat} {o : Oper} (ho : ops[i]? = some o) (h1 : d1.getD i false = false) {j : Nat} (hjx : xs.contains j = false) (hj1 : d1.getD j false = true) (hj0 : d0.getD j true = false) (hj : j < ops.size) :
    ∃ e ∈ o.after, Region.binds md e = true ∧ e.on = j := by
  have hi : i < ops.size := (Array.getElem?_eq_some_iff.1 ho).1
  have := List.all_eq_true.1 h i (List.mem_range.2 hi)
  rw [ho] at this
  simp only [h1, if_false, Bool.false_eq_true] at this
  have := List.all_eq_true.1 this j (List.mem_range.2 hj)
  simp only [hjx, hj1, hj0, Bool.not_true, Bool.false_or] at this
  obtain ⟨e, he, hb⟩ := List.any_eq_true.1 this
  simp only [Bool.and_eq_true, beq_iff_eq] at hb
  exact ⟨e, by simpa using he, hb⟩
/-- The part, of which some operations may still be to come. -/
def maskD (d1 : Array Bool) (xs : List Nat) (b : Nat → Bool) : Array Bool := xs.foldl (fun d x => d.setIfInBounds x (b x)) d1
theorem maskD_size (b : Nat → Bool) : ∀ (xs : List Nat) (d1 : Array Bool), (maskD d1 xs b).size = d1.size
  | [], _ => rfl
  | x :: r, d1 => by
    show (maskD (d1.setIfInBounds x (b x)) r b).size = _
    rw [maskD_size b r]; simp
theorem maskD_get (b : Nat → Bool) : ∀ (xs : List Nat) (d1 : Array Bool) (i : Nat), i < d1.size → (maskD d1 xs b)[i]? = if i ∈ xs then some (b i) else d1[i]?
  | [], d1, i, hi => by simp [maskD]
  | x :: r, d1, i, hi => by
    show (maskD (d1.setIfInBounds x (b x)) r b)[i]? = _
    rw [maskD_get b r _ i (by simpa using hi)]
    by_cases hr : i ∈ r
    · simp [hr]
    · rw [if_neg hr]
      by_cases hx : i = x
      · subst hx; simp [hi]
      · have hx' : ¬ x = i := fun e => hx e.symm
        simp [hr, hx, hx', Array.getElem?_setIfInBounds]
theorem maskD_eq {d d1 : Array Bool} {xs : List Nat} (hs : d.size = d1.size) (h : ∀ i, i < d1.size → i ∉ xs → d.getD i false = d1.getD i false) : d = maskD d1 xs fun i => d.getD i false := by
  refine Array.ext (by rw [maskD_size, hs]) fun i h1 h2 => ?_
  have h3 : i < d1.size := by omega
  have e := maskD_get (fun i => d.getD i false) xs d1 i h3
  rw [Array.getElem?_eq_getElem h2] at e
  by_cases hx : i ∈ xs
  · rw [if_pos hx] at e
    have := Option.some.inj e
    rw [this]; simp [h1]
  · rw [if_neg hx, Array.getElem?_eq_getElem h3] at e
    have := Option.some.inj e
    rw [this]
    have k := h i h3 hx
    simpa [h1, h3] using k
/-- THE LAW: a part of a region may come in whatever order; for some operations of it the rest does not wait. -/
theorem wpAnyH_partX (V : Nat → Value → World → Prop) (xs : List Nat) (a0 : Act) (d0 d1 : Array Bool) (f : Nat) (hok : regionOk md ops d0 a0.tmps.size = true) (hpo : partOkX md ops d0 d1 xs = true) (hd1 : d1.size = ops.size)
    (h01 : ∀ i, d0.getD i true = true → i < ops.size → d1.getD i false = true)
    (hst : ∀ i v w w', V i v w → Below w.heap.size w w' → V i v w')
    (step : ∀ i o, ops[i]? = some o → d0.getD i true = false → d1.getD i false = true → ∀ d a w, S w → InvP ops V a0 d0 d a w → (∀ e ∈ o.after, Region.binds md e = true → d.getD e.on false = true) →
      o.wp P a w (fun a' w' => ∃ v, a' = a.put o.dst v ∧ V i v w' ∧ S w' ∧ Below w.heap.size w w') Q)
    (fin : ∀ b a w, S w → InvP ops V a0 d0 (maskD d1 xs b) a w → wpAnyH P md ops Q S (cntA ops d1 (maskD d1 xs b) + f) (maskD d1 xs b) a w) :
    ∀ (n : Nat) (d : Array Bool) (a : Act) (w : World), d.size = ops.size → (∀ i, d0.getD i true = true → i < ops.size → d.getD i false = true) → (∀ i, d.getD i false = true → d1.getD i false = true) → S w → InvP ops V a0 d0 d a w →
      cntA ops d1 d = n → wpAnyH P md ops Q S (n + f) d a w := by
  intro n
  induction n with
  | zero =>
    intro d a w hs hpre hsub hS hI hc
    have e : d = maskD d1 xs fun i => d.getD i false := maskD_eq (by omega) fun i hi _ => by
      cases h1 : d1.getD i false
      · cases h : d.getD i false
        · rfl
        · have := hsub i h; rw [h1] at this; cases this
      · cases h : d.getD i false
        · exfalso
          have : 0 < cntA ops d1 d := List.countP_pos_iff.2 ⟨i, List.mem_range.2 (by omega), by
            have hlt : i < d.size := by omega
            have : d.getD i true = false := by simp [hlt] at h ⊢; exact h
            simp only [h1, this]; rfl⟩
          omega
        · rfl
    have := fin (fun i => d.getD i false) a w hS (by rw [← e]; exact hI)
    rw [← e, hc] at this
    exact this
  | succ n ih =>
    intro d a w hs hpre hsub hS hI hc
    have hd0 : ∀ i, i < ops.size → d.getD i true = false → d0.getD i true = false := by
      intro i hi h
      cases h0 : d0.getD i true
      · rfl
      · have := hpre i h0 hi
        have hlt : i < d.size := by omega
        simp [hlt] at this h
        rw [h] at this; cases this
    by_cases hlow : ∃ i, i < ops.size ∧ xs.contains i = false ∧ d1.getD i false = true ∧ d.getD i true = false
    · -- the least one that is still to come may come now
      have hready : Region.ready md ops d ≠ [] := by
        have key : ∀ i, i < ops.size → d1.getD i false = true → d.getD i true = false → Region.ready md ops d ≠ [] := by
          intro i
          induction i using Nat.strongRecOn with
          | _ i ihi =>
            intro hi h1 h
            have ho : ops[i]? = some ops[i] := Array.getElem?_eq_getElem hi
            have h0 := hd0 i hi h
            by_cases hall : ∀ e ∈ ops[i].after, Region.binds md e = true → d.getD e.on false = true
            · intro hr
              have : i ∈ Region.ready md ops d := mem_ready.2 ⟨h, ops[i], ho, hall⟩
              rw [hr] at this; cases this
            · have : ∃ e ∈ ops[i].after, Region.binds md e = true ∧ ¬ d.getD e.on false = true := by
                refine Classical.byContradiction fun hne => hall fun e he hb => ?_
                refine Classical.byContradiction fun hn => hne ⟨e, he, hb, hn⟩
              obtain ⟨e, he, hb, hn⟩ := this
              have hlt := (regionOk_spec hok ho h0).2.2 e he hb
              have hin := partOkX_in hpo ho h1 h0 e he hb
              refine ihi e.on hlt (by omega) hin ?_
              have hl : e.on < d.size := by omega
              simp [hl] at hn ⊢
              exact hn
        obtain ⟨i, hi, _, h1, h⟩ := hlow
        exact key i hi h1 h
      rw [show n + 1 + f = (n + f) + 1 by omega]
      refine ⟨fun hr => absurd hr hready, fun i hi => ?_⟩
      obtain ⟨hun, o, ho, hall⟩ := mem_ready.1 hi
      have hlt : i < ops.size := (Array.getElem?_eq_some_iff.1 ho).1
      have h0 := hd0 i hlt hun
      have h1 : d1.getD i false = true := by
        cases h1 : d1.getD i false
        · exfalso
          obtain ⟨j, hj, hjx, hj1, hj0⟩ := hlow
          obtain ⟨e, he, hb, rfl⟩ := partOkX_out hpo ho h1 hjx hj1 (hd0 j hj hj0) hj
          have := hall e he hb
          have hl : e.on < d.size := by omega
          simp [hl] at this hj0
          rw [hj0] at this; cases this
        · rfl
      have hg := (regionOk_spec hok ho h0).1
      unfold wpOp
      simp only [ho]
      have hw : Region.wanted o (yielded ops a.tmps) = true := by simp [Region.wanted, hg]
      rw [if_pos hw]
      refine .inl (Oper.wp_mono (fun a' w' hk => ?_) (step i o ho h0 h1 d a w hS hI hall))
      obtain ⟨v, rfl, hv, hS', hb⟩ := hk
      refine ⟨hS', ih _ _ _ (by simpa using hs) (fun j hj hjl => ?_) (fun j hj => ?_) hS' (hI.step hok (by have := (Array.getElem?_eq_some_iff.1 ho).1; omega) hst ho h0 hb hv) ?_⟩
      · by_cases e : i = j
        · subst e; rw [hj] at h0; cases h0
        · rw [getD_set_ne false e]; exact hpre j hj hjl
      · by_cases e : i = j
        · subst e; exact h1
        · rw [getD_set_ne false e] at hj; exact hsub j hj
      · have hdl : i < d.size := by omega
        have := countP_one (p := fun k => d1.getD k false && !d.getD k true) (q := fun k => d1.getD k false && !(d.setIfInBounds i true).getD k true) (i := i) (List.range ops.size) List.nodup_range (List.mem_range.2 hlt) (by simp only [h1, hun]; rfl) (by simp [hdl]) (fun x hx => by rw [getD_set_ne true (Ne.symm hx)])
        unfold cntA at hc ⊢
        omega
    · have e : d = maskD d1 xs fun i => d.getD i false := maskD_eq (by omega) fun i hi hx => by
        cases h1 : d1.getD i false
        · cases h : d.getD i false
          · rfl
          · have := hsub i h; rw [h1] at this; cases this
        · cases h : d.getD i false
          · exfalso
            have hlt : i < d.size := by omega
            exact hlow ⟨i, by omega, by simpa using hx, h1, by simp [hlt] at h ⊢; exact h⟩
          · rfl
      have := fin (fun i => d.getD i false) a w hS (by rw [← e]; exact hI)
      rw [← e, hc] at this
      exact this
theorem wpAnyH_partXFrom (V : Nat → Value → World → Prop) (xs : List Nat) {a0 : Act} {d0 : Array Bool} (d1 : Array Bool) {w0 : World} {fuel : Nat} (k n f : Nat) (hfu : fuel = n + f) (hk : a0.tmps.size = k) (hok : regionOk md ops d0 k = true) (hpo : partOkX md ops d0 d1 xs = true) (hd0 : d0.size = ops.size) (hd1 : d1.size = ops.size)
    (h01 : ((List.range ops.size).all fun i => !d0.getD i true || d1.getD i false) = true) (h02 : ((List.range ops.size).all fun i => !d0.getD i false || d1.getD i false) = true)
    (hst : ∀ i v w w', V i v w → Below w.heap.size w w' → V i v w') (hS : S w0) (hn : cntA ops d1 d0 = n)
    (step : ∀ i o, ops[i]? = some o → d0.getD i true = false → d1.getD i false = true → ∀ d a w, S w → InvP ops V a0 d0 d a w → (∀ e ∈ o.after, Region.binds md e = true → d.getD e.on false = true) →
      o.wp P a w (fun a' w' => ∃ v, a' = a.put o.dst v ∧ V i v w' ∧ S w' ∧ Below w.heap.size w w') Q)
    (fin : ∀ (b : Nat → Bool) vs w, S w → (∀ p ∈ partL ops d0 (maskD d1 xs b), V p.1 (vs p.2) w) → wpAnyH P md ops Q S (cntA ops d1 (maskD d1 xs b) + f) (maskD d1 xs b) (putL a0 vs (partL ops d0 (maskD d1 xs b))) w) : wpAnyH P md ops Q S fuel d0 a0 w0 := by
  subst hfu
  refine wpAnyH_partX V xs a0 d0 d1 f (by rw [hk]; exact hok) hpo hd1 (fun i h hi => ?_) hst step (fun b a w hS hI => by obtain ⟨vs, e, hv⟩ := hI.canon; rw [e]; exact fin b vs w hS hv) n d0 a0 w0 hd0 (fun i h1 h2 => by
    have hlt : i < d0.size := by omega
    simp [hlt] at h1 ⊢; exact h1) (fun i h => ?_) hS InvP.start hn
  · have := List.all_eq_true.1 h01 i (List.mem_range.2 hi)
    simpa [h] using this
  · have hlt : i < ops.size := by
      rcases Nat.lt_or_ge i d0.size with hl | hl
      · omega
      · simp [Array.getElem?_eq_none hl] at h
    have := List.all_eq_true.1 h02 i (List.mem_range.2 hlt)
    simp only [h, Bool.not_true, Bool.false_or] at this
    exact this
/-- The same, with the states behind the part listed: which have come up, their slots, how many are still to come. -/
theorem wpAnyH_partXAlts (V : Nat → Value → World → Prop) (xs : List Nat) {a0 : Act} {d0 : Array Bool} (d1 : Array Bool) {w0 : World} {fuel : Nat} (k n f : Nat) (hfu : fuel = n + f) (hk : a0.tmps.size = k) (hok : regionOk md ops d0 k = true) (hpo : partOkX md ops d0 d1 xs = true) (hd0 : d0.size = ops.size) (hd1 : d1.size = ops.size)
    (h01 : ((List.range ops.size).all fun i => !d0.getD i true || d1.getD i false) = true) (h02 : ((List.range ops.size).all fun i => !d0.getD i false || d1.getD i false) = true)
    (hst : ∀ i v w w', V i v w → Below w.heap.size w w' → V i v w') (hS : S w0) (hn : cntA ops d1 d0 = n)
    (step : ∀ i o, ops[i]? = some o → d0.getD i true = false → d1.getD i false = true → ∀ d a w, S w → InvP ops V a0 d0 d a w → (∀ e ∈ o.after, Region.binds md e = true → d.getD e.on false = true) →
      o.wp P a w (fun a' w' => ∃ v, a' = a.put o.dst v ∧ V i v w' ∧ S w' ∧ Below w.heap.size w w') Q)
    (alts : List (Array Bool × List (Nat × Nat) × Nat)) (halts : ∀ b, ∃ alt ∈ alts, maskD d1 xs b = alt.1) (hok2 : (alts.all fun alt => decide (partL ops d0 alt.1 = alt.2.1) && decide (cntA ops d1 alt.1 = alt.2.2)) = true)
    (fin : ∀ alt ∈ alts, ∀ vs w, S w → (∀ p ∈ alt.2.1, V p.1 (vs p.2) w) → wpAnyH P md ops Q S (alt.2.2 + f) alt.1 (putL a0 vs alt.2.1) w) : wpAnyH P md ops Q S fuel d0 a0 w0 := by
  refine wpAnyH_partXFrom V xs d1 k n f hfu hk hok hpo hd0 hd1 h01 h02 hst hS hn step fun b vs w hS hV => ?_
  obtain ⟨alt, hm, he⟩ := halts b
  have h := List.all_eq_true.1 hok2 alt hm
  simp only [Bool.and_eq_true, decide_eq_true_eq] at h
  rw [he, h.1] at hV
  rw [he, h.1, h.2]
  exact fin alt hm vs w hS hV
end
end Go.Proofs.YtdoklolinbmhpaaGreat
