/- Regions whose order is drawn: what only reads, or calls what makes memory and returns one value, and then some operations that come in one order, such as a store. -/
import Derived.Test.YtdoklolinbmhpaaGreatUA
import Derived.StillTail
set_option linter.all false
namespace Go.Proofs.YtdoklolinbmhpaaGreat
open Go.RowKit

section
variable {P : Program} {ops : Array Oper} {md : Region.Mode} {C : World → Prop}

/-- For f rounds whatever comes up is one of the first n, and is quiet in the class; then L. -/
def HeadQ (P : Program) (md : Region.Mode) (ops : Array Oper) (C : World → Prop) (n : Nat) (L : Array Bool → Act → Prop) : Nat → Array Bool → Act → Prop
  | 0 => L
  | f + 1 => fun d a => (∃ i, i ∈ Region.ready md ops d) ∧ ∀ i, i ∈ Region.ready md ops d → i < n ∧ qOp P ops C i (HeadQ P md ops C n L f (d.setIfInBounds i true)) a

theorem HeadQ.any {n g : Nat} {L : Array Bool → Act → Prop} {Q : Exit → Act → World → Prop} (hL : ∀ d a w, C w → L d a → wpAny P md ops Q g d a w) :
    ∀ (f : Nat) (d : Array Bool) (a : Act) (w : World), C w → HeadQ P md ops C n L f d a → wpAny P md ops Q (g + f) d a w := by
  intro f
  induction f with
  | zero => exact fun d a w hw h => hL d a w hw h
  | succ f ih =>
    rintro d a w hw ⟨⟨i, hi⟩, h⟩
    refine ⟨fun h0 => (by rw [h0] at hi; cases hi), fun j hj => ?_⟩
    exact wpOp_of_qOp hw (fun a' w' hw' h' => ih _ a' w' hw' h') (h j hj).2

theorem HeadQ.first {n i : Nat} {oi : Oper} {v : Value} {L : Array Bool → Act → Prop} (hs : Region.noSelect ops = true) (hsk : Region.sinkB md ops n = true) (hch : Region.chainB md ops n = true) (hn : n < ops.size)
    (hi : ops[i]? = some oi) (hin : i < n) (hL : ∀ d a, L d a → ∀ j ∈ Region.ready md ops d, n ≤ j) :
    ∀ (f : Nat) (d : Array Bool) (a : Act), HeadInv md ops n d →
      (∀ j oj, ops[j]? = some oj → j ≠ i → d.getD j true = false → (∀ e ∈ oj.after, Region.binds md e = true → e.on ≠ i) → oi.apart ops oj = true) →
      i ∈ Region.ready md ops d → YieldsIn P ops C oi v a → HeadQ P md ops C n L f (d.setIfInBounds i true) (a.put oi.dst v) → HeadQ P md ops C n L (f + 1) d a := by
  have hsel := Region.noSelect_spec hs
  have early : ∀ d, HeadInv md ops n d → i ∈ Region.ready md ops d → ∀ j ∈ Region.ready md ops d, j < n := fun d inv hr j hj =>
    Nat.lt_of_not_le fun h => tail_waits hsk hch hn inv _ i rfl hin (mem_ready.1 hr).1 j h hj
  intro f
  induction f with
  | zero =>
    intro d a inv _ hr hy H
    refine ⟨⟨i, hr⟩, fun j hj => ⟨early d inv hr j hj, ?_⟩⟩
    by_cases e : j = i
    · subst e; exact hy.qOp hi H
    · exact absurd (hL _ _ H j (ready_mono hj e)) (Nat.not_le_of_lt (early d inv hr j hj))
  | succ f ih =>
    intro d a inv hfree hr hy H
    have hun := (mem_ready.1 hr).1
    refine ⟨⟨i, hr⟩, fun j hj => ⟨early d inv hr j hj, ?_⟩⟩
    by_cases e : j = i
    · subst e; exact hy.qOp hi H
    · obtain ⟨hjun, oj, hoj, hall⟩ := mem_ready.1 hj
      have hap : oi.apart ops oj = true := hfree j oj hoj e hjun fun x hx hb hxi => by
        have := hall x hx hb
        rw [hxi, getD_both hun] at this
        cases this
      refine qOp_mono (fun a' h3 => ?_) (qOp_put hoj hap (fun cs b => hsel i oi cs b hi) (fun cs b => hsel j oj cs b hoj) hy (H.2 j (ready_mono hj e)).2)
      refine ih _ a' (inv.set hj (early d inv hr j hj)) (fun k ok hk hki hku hno => ?_) (ready_mono hr (Ne.symm e)) h3.1 (by rw [Array.setIfInBounds_comm _ _ e]; exact h3.2)
      refine hfree k ok hk hki ?_ hno
      by_cases hjk : j = k
      · subst hjk; exact hjun
      · rw [getD_set_ne true hjk] at hku; exact hku

theorem HeadQ.lex {n g : Nat} {Lq : Act → Prop} (hs : Region.noSelect ops = true) (hsk : Region.sinkB md ops n = true) (hch : Region.chainB md ops n = true) (hn : n < ops.size) :
    ∀ (l : List Oper) (k : Nat) (d : Array Bool) (a : Act), (∀ j, j < l.length → l[j]? = ops[k + j]?) → k + l.length = n → HeadInv md ops n d →
      Region.lexHead md ops g l.length k d = true → wpQuiet P ops C Lq l a → HeadQ P md ops C n (fun d a => Region.seqB md ops g n d = true ∧ Lq a) l.length d a := by
  intro l
  induction l with
  | nil =>
    intro k d a _ hk _ hB h
    obtain rfl : k = n := by simpa using hk
    exact ⟨by simpa [Region.lexHead] using hB, h⟩
  | cons o l ih =>
    intro k d a hl hk inv hB h
    have h0 : ops[k]? = some o := by simpa using (hl 0 (by simp)).symm
    simp only [List.length_cons, Region.lexHead, Bool.and_eq_true] at hB hk
    have hr : k ∈ Region.ready md ops d := by simpa using hB.1.1
    obtain ⟨v, hy, hK⟩ := yieldsIn_of_qOp (C := C) h0 (show qOp P ops C k (wpQuiet P ops C Lq l) a by unfold qOp; simp only [h0]; exact h)
    refine HeadQ.first hs hsk hch hn h0 (by omega) (fun d' a' hL => seqB_ready hL.1) l.length d a inv (Region.free_spec h0 hB.1.2) hr hy ?_
    exact ih (k + 1) _ _ (fun j hj => by have := hl (j + 1) (by simp; omega); simpa [Nat.add_assoc, Nat.add_comm 1 j] using this) (by omega) (inv.set hr (by omega)) hB.2 hK
end

/-- The first n operations are quiet in the class of later worlds, in the order of the text; what follows comes in one order. -/
theorem wp_region_grow_tail {P : Program} {id : Nat} {Q : Exit → Act → World → Prop} {a : Act} {w : World} {l : List Oper} (B n : Nat) (hm : P.follows .mixedOrders = true) (hB : Region.lexTailB .any l.toArray n = true)
    (h : wpQuiet P l.toArray (fun w' => ∃ X : Later B w, w' = X.wd) (fun a' => ∀ w', (∃ X : Later B w, w' = X.wd) → wpList P l.toArray Q (l.drop n) a' w') (l.take n) a) : (Code.region id l.toArray true).wp P Q a w := by
  simp only [Region.lexTailB, Bool.and_eq_true, decide_eq_true_eq] at hB
  obtain ⟨⟨⟨⟨hs, hn⟩, hsk⟩, hch⟩, hlex⟩ := hB
  have htl : (l.take n).length = n := by simp at hn ⊢; omega
  have inv0 : HeadInv .any l.toArray n (Array.replicate l.toArray.size false) :=
    ⟨by simp, fun j oj _ hl => (by rw [getD_replicate_false] at hl; cases hl), fun t _ ht => getD_in (by simpa using ht) (getD_replicate_false _ _)⟩
  have H := HeadQ.lex (md := .any) (g := l.toArray.size - n) hs hsk hch hn (l.take n) 0 _ a (fun j hj => by simp [show j < n by omega]) (by omega) inv0 (by rw [htl]; exact hlex) h
  refine wp_region_any hm ?_
  have K := HeadQ.any (Q := Q) (g := l.toArray.size - n) (fun d a' w' hw' hL => by
    have := wpAny_of_seq (md := .any) (Q' := Q) (l.drop n) n d a' w' (fun j => by simp [List.getElem?_drop]) (by simpa using hL.1) (hL.2 w' hw')
    simpa using this) _ _ _ _ (show ∃ X : Later B w, { w with drawn := w.drawn + 1 } = X.wd from ⟨⟨_, (Below.refl _ _).drew⟩, rfl⟩) H
  rw [htl, show l.toArray.size - n + n = l.toArray.size by omega] at K
  exact K

/-! ### The same, where one call m moves the class on: C false before it, C true behind it -/

section
variable {P : Program} {ops : Array Oper} {md : Region.Mode} {C : Bool → World → Prop} {m : Nat}

/-- A call that takes each world of the class C false to one of C true, and returns v. -/
def MovesAt (P : Program) (C : Bool → World → Prop) (o : Oper) (a : Act) (v : Value) : Prop :=
  ∀ w, C false w → ∃ f args, (execOp a.eval o).run P w = .ok (.enter f args) w ∧ Calls P f args w fun e w' => e = .returned v ∧ C true w'
def StageOk (P : Program) (C : Bool → World → Prop) (m i : Nat) (o : Oper) (a : Act) (v : Value) : Prop :=
  (i ≠ m ∧ ∀ b w, C b w → o.quietAt P a (C b) w v) ∨ (i = m ∧ MovesAt P C o a v)
/-- v is what the i-th operation leaves in its temporary, in each world of the class that it can meet. -/
def StageV (P : Program) (ops : Array Oper) (C : Bool → World → Prop) (m i : Nat) (o : Oper) (a : Act) (v : Value) : Prop :=
  (Region.wanted o (yielded ops a.tmps) = true ∧ StageOk P C m i o a v) ∨ (i ≠ m ∧ Region.wanted o (yielded ops a.tmps) = false ∧ v = undef)
/-- The i-th operation comes up. -/
def StageOp (P : Program) (ops : Array Oper) (C : Bool → World → Prop) (m i : Nat) (K : Act → Prop) (a : Act) : Prop :=
  ∃ o, ops[i]? = some o ∧ ∃ v, StageV P ops C m i o a v ∧ K (a.put o.dst v)
theorem StageOp.mono {i : Nat} {K K' : Act → Prop} {a : Act} (h : StageOp P ops C m i K a) (hk : ∀ a, K a → K' a) : StageOp P ops C m i K' a :=
  let ⟨o, ho, v, hv, h⟩ := h
  ⟨o, ho, v, hv, hk _ h⟩
theorem StageV.same {i : Nat} {o : Oper} {a a' : Act} {v : Value} (h : StageV P ops C m i o a v) (he : execOp a'.eval o = execOp a.eval o) (hw : Region.wanted o (yielded ops a'.tmps) = Region.wanted o (yielded ops a.tmps)) : StageV P ops C m i o a' v := by
  unfold StageV StageOk MovesAt Oper.quietAt at *
  rw [he, hw]
  exact h
/-- What stands apart may change places. -/
theorem StageOp.swap {i j : Nat} {oi oj : Oper} {v : Value} (hj : ops[j]? = some oj) (hap : oi.apart ops oj = true) (hsi : ∀ cs b, oi.op ≠ .select cs b) (hsj : ∀ cs b, oj.op ≠ .select cs b) {K : Act → Prop} {a : Act}
    (hv : StageV P ops C m i oi a v) (h : StageOp P ops C m j K (a.put oi.dst v)) : StageOp P ops C m j (fun a' => StageV P ops C m i oi a' v ∧ K (a'.put oi.dst v)) a := by
  obtain ⟨h1, h2, h3⟩ := Oper.apart_spec hap
  obtain ⟨o, ho, u, hu, hk⟩ := h
  obtain rfl : o = oj := Option.some.inj (ho.symm.trans hj)
  refine ⟨o, ho, u, hu.same (execOp_put o hsj a oi.dst v h1).symm (wanted_put o a oi.dst v h1).symm, ?_, ?_⟩
  · exact hv.same (execOp_put oi hsi a o.dst u h3) (wanted_put oi a o.dst u h3)
  · rw [← Act.put_comm a v u h2]; exact hk
theorem StageOp.wp {i : Nat} {a : Act} {K : Act → Prop} {K' : Act → World → Prop} {Q : Exit → Act → World → Prop} {b : Bool} {w : World} (hw : C b w) (hb : i = m → b = false)
    (hk : ∀ a w, C (b || i == m) w → K a → K' a w) (h : StageOp P ops C m i K a) : wpOp P ops Q i K' a w := by
  obtain ⟨o, ho, v, hv, h⟩ := h
  unfold wpOp
  simp only [ho]
  rcases hv with ⟨hwa, hv⟩ | ⟨hne, hwa, rfl⟩
  · simp only [hwa, if_true]
    refine .inl ?_
    rcases hv with ⟨hne, hv⟩ | ⟨rfl, hv⟩
    · exact Oper.wp_of_quiet (C := C b) hw (fun a w' hw' h' => hk a w' (by simpa [beq_eq_false_iff_ne.2 hne] using hw') h') ⟨v, hv b, h⟩ |> fun x => x
    · obtain rfl := hb rfl
      obtain ⟨f, args, hrun, hc⟩ := hv w hw
      unfold Oper.wp
      rw [hrun]
      simp only [Oper.upon]
      exact hc.mono fun e w' ⟨he, hw'⟩ => by subst he; exact hk _ _ (by simpa using hw') h
  · simp only [hwa, Bool.false_eq_true, if_false]
    exact hk _ _ (by simpa [beq_eq_false_iff_ne.2 hne] using hw) h

def HeadS (P : Program) (md : Region.Mode) (ops : Array Oper) (C : Bool → World → Prop) (m n : Nat) (L : Array Bool → Act → Prop) : Nat → Array Bool → Act → Prop
  | 0 => L
  | f + 1 => fun d a => (∃ i, i ∈ Region.ready md ops d) ∧ ∀ i, i ∈ Region.ready md ops d → i < n ∧ StageOp P ops C m i (HeadS P md ops C m n L f (d.setIfInBounds i true)) a

theorem getD_put {d : Array Bool} {i m : Nat} (hm : m < d.size) : (d.setIfInBounds i true).getD m false = (d.getD m false || i == m) := by
  by_cases e : i = m
  · subst e; simp [hm]
  · rw [getD_set_ne false e]; simp [beq_eq_false_iff_ne.2 e]

theorem HeadS.any {n g : Nat} {L : Array Bool → Act → Prop} {Q : Exit → Act → World → Prop} (hL : ∀ d a w, C (d.getD m false) w → L d a → wpAny P md ops Q g d a w) :
    ∀ (f : Nat) (d : Array Bool) (a : Act) (w : World), m < d.size → C (d.getD m false) w → HeadS P md ops C m n L f d a → wpAny P md ops Q (g + f) d a w := by
  intro f
  induction f with
  | zero => exact fun d a w _ hw h => hL d a w hw h
  | succ f ih =>
    rintro d a w hm hw ⟨⟨i, hi⟩, h⟩
    refine ⟨fun h0 => (by rw [h0] at hi; cases hi), fun j hj => ?_⟩
    refine (h j hj).2.wp hw (fun e => ?_) (fun a' w' hw' h' => ih _ a' w' (by simpa using hm) (by rw [getD_put hm]; exact hw') h')
    subst e
    exact getD_both (mem_ready.1 hj).1

theorem HeadS.first {n i : Nat} {oi : Oper} {v : Value} {L : Array Bool → Act → Prop} (hs : Region.noSelect ops = true) (hsk : Region.sinkB md ops n = true) (hch : Region.chainB md ops n = true) (hn : n < ops.size)
    (hi : ops[i]? = some oi) (hin : i < n) (hL : ∀ d a, L d a → ∀ j ∈ Region.ready md ops d, n ≤ j) :
    ∀ (f : Nat) (d : Array Bool) (a : Act), HeadInv md ops n d →
      (∀ j oj, ops[j]? = some oj → j ≠ i → d.getD j true = false → (∀ e ∈ oj.after, Region.binds md e = true → e.on ≠ i) → oi.apart ops oj = true) →
      i ∈ Region.ready md ops d → StageV P ops C m i oi a v → HeadS P md ops C m n L f (d.setIfInBounds i true) (a.put oi.dst v) → HeadS P md ops C m n L (f + 1) d a := by
  have hsel := Region.noSelect_spec hs
  have early : ∀ d, HeadInv md ops n d → i ∈ Region.ready md ops d → ∀ j ∈ Region.ready md ops d, j < n := fun d inv hr j hj =>
    Nat.lt_of_not_le fun h => tail_waits hsk hch hn inv _ i rfl hin (mem_ready.1 hr).1 j h hj
  intro f
  induction f with
  | zero =>
    intro d a inv _ hr hy H
    refine ⟨⟨i, hr⟩, fun j hj => ⟨early d inv hr j hj, ?_⟩⟩
    by_cases e : j = i
    · subst e; exact ⟨oi, hi, v, hy, H⟩
    · exact absurd (hL _ _ H j (ready_mono hj e)) (Nat.not_le_of_lt (early d inv hr j hj))
  | succ f ih =>
    intro d a inv hfree hr hy H
    have hun := (mem_ready.1 hr).1
    refine ⟨⟨i, hr⟩, fun j hj => ⟨early d inv hr j hj, ?_⟩⟩
    by_cases e : j = i
    · subst e; exact ⟨oi, hi, v, hy, H⟩
    · obtain ⟨hjun, oj, hoj, hall⟩ := mem_ready.1 hj
      have hap : oi.apart ops oj = true := hfree j oj hoj e hjun fun x hx hb hxi => by
        have := hall x hx hb
        rw [hxi, getD_both hun] at this
        cases this
      refine (StageOp.swap hoj hap (fun cs b => hsel i oi cs b hi) (fun cs b => hsel j oj cs b hoj) hy (H.2 j (ready_mono hj e)).2).mono fun a' h3 => ?_
      refine ih _ a' (inv.set hj (early d inv hr j hj)) (fun k ok hk hki hku hno => ?_) (ready_mono hr (Ne.symm e)) h3.1 (by rw [Array.setIfInBounds_comm _ _ e]; exact h3.2)
      refine hfree k ok hk hki ?_ hno
      by_cases hjk : j = k
      · subst hjk; exact hjun
      · rw [getD_set_ne true hjk] at hku; exact hku

/-- The lexical walk: before the call m, the call m itself, behind it. -/
def wpStage (P : Program) (ops : Array Oper) (C : Bool → World → Prop) (m : Nat) (Q : Act → Prop) : Nat → List Oper → Act → Prop
  | _, [] => Q
  | k, o :: l => fun a => ∃ v, StageV P ops C m k o a v ∧ wpStage P ops C m Q (k + 1) l (a.put o.dst v)

theorem HeadS.lex {n g : Nat} {Lq : Act → Prop} (hs : Region.noSelect ops = true) (hsk : Region.sinkB md ops n = true) (hch : Region.chainB md ops n = true) (hn : n < ops.size) :
    ∀ (l : List Oper) (k : Nat) (d : Array Bool) (a : Act), (∀ j, j < l.length → l[j]? = ops[k + j]?) → k + l.length = n → HeadInv md ops n d → (∀ i, i < k → d.getD i false = true) →
      Region.lexHead md ops g l.length k d = true → wpStage P ops C m Lq k l a →
      HeadS P md ops C m n (fun d a => (Region.seqB md ops g n d = true ∧ ∀ i, i < n → d.getD i false = true) ∧ Lq a) l.length d a := by
  intro l
  induction l with
  | nil =>
    intro k d a _ hk _ hpre hB h
    obtain rfl : k = n := by simpa using hk
    exact ⟨⟨by simpa [Region.lexHead] using hB, hpre⟩, h⟩
  | cons o l ih =>
    intro k d a hl hk inv hpre hB h
    have h0 : ops[k]? = some o := by simpa using (hl 0 (by simp)).symm
    simp only [List.length_cons, Region.lexHead, Bool.and_eq_true] at hB hk
    have hr : k ∈ Region.ready md ops d := by simpa using hB.1.1
    obtain ⟨v, hy, hK⟩ := h
    refine HeadS.first hs hsk hch hn h0 (by omega) (fun d' a' hL => seqB_ready hL.1.1) l.length d a inv (Region.free_spec h0 hB.1.2) hr hy ?_
    refine ih (k + 1) _ _ (fun j hj => by have := hl (j + 1) (by simp; omega); simpa [Nat.add_assoc, Nat.add_comm 1 j] using this) (by omega) (inv.set hr (by omega)) (fun i hi => ?_) hB.2 hK
    by_cases e : k = i
    · subst e; simp [show k < d.size by rw [inv.size]; omega]
    · rw [getD_set_ne false e]; exact hpre i (by omega)
end

theorem wp_region_stage_tail {P : Program} {id : Nat} {Q : Exit → Act → World → Prop} {a : Act} {w : World} {l : List Oper} (C : Bool → World → Prop) (m n : Nat) (hm : P.follows .mixedOrders = true) (hmn : m < n) (hB : Region.lexTailB .any l.toArray n = true)
    (hC : C false w.drew) (h : wpStage P l.toArray C m (fun a' => ∀ w', C true w' → wpList P l.toArray Q (l.drop n) a' w') 0 (l.take n) a) : (Code.region id l.toArray true).wp P Q a w := by
  simp only [Region.lexTailB, Bool.and_eq_true, decide_eq_true_eq] at hB
  obtain ⟨⟨⟨⟨hs, hn⟩, hsk⟩, hch⟩, hlex⟩ := hB
  have htl : (l.take n).length = n := by simp at hn ⊢; omega
  have inv0 : HeadInv .any l.toArray n (Array.replicate l.toArray.size false) :=
    ⟨by simp, fun j oj _ hl => (by rw [getD_replicate_false] at hl; cases hl), fun t _ ht => getD_in (by simpa using ht) (getD_replicate_false _ _)⟩
  have H := HeadS.lex (md := .any) (C := C) (m := m) (g := l.toArray.size - n) hs hsk hch hn (l.take n) 0 _ a (fun j hj => by simp [show j < n by omega]) (by omega) inv0 (fun i hi => absurd hi (Nat.not_lt_zero _)) (by rw [htl]; exact hlex) h
  refine wp_region_any hm ?_
  have K := HeadS.any (Q := Q) (g := l.toArray.size - n) (fun d a' w' hw' hL => by
    have := wpAny_of_seq (md := .any) (Q' := Q) (l.drop n) n d a' w' (fun j => by simp [List.getElem?_drop]) (by simpa using hL.1.1) (hL.2 w' (by rw [hL.1.2 m hmn] at hw'; exact hw'))
    simpa using this) _ _ _ _ (by simp at hn ⊢; omega) (by rw [getD_replicate_false]; exact hC) H
  rw [htl, show l.toArray.size - n + n = l.toArray.size by omega] at K
  exact K
end Go.Proofs.YtdoklolinbmhpaaGreat
