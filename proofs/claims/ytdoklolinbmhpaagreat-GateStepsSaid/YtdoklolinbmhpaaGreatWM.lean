/- Gate, part WM: sets of gates, and what is done with them, as numbers; what a step keeps to. -/
import Derived.Test.YtdoklolinbmhpaaGreatVM
set_option linter.all false
namespace Go.Proofs.YtdoklolinbmhpaaGreat
open Go.RowKit

theorem upq_100 (n : Int) : upq n 100 = (n + 99) / 100 := by unfold upq; omega
theorem upq_10 (n : Int) : upq n 10 = (n + 9) / 10 := by unfold upq; omega

/-! ### One gate -/
theorem follow_lim {g : Gt} (hg : GtGood g) {s : St} (hs : StGood g s) (t : Sp) (force : Int) {left : Int} (hl : 0 ≤ left ∧ left ≤ 5000) :
    (followF g s t force left).1 ≤ max g.speed g.gravity ∧ (0 < (followF g s t force left).2 → t.power = true ∧ (followF g s t force left).1 ≤ g.speed ∧ (followF g s t force left).2 = ((followF g s t force left).1 * g.use + 99) / 100) := by
  have h1 := hg.gravity; have h2 := hg.speed; have h3 := hs.charge; have h4 := hg.cap
  unfold followF
  split
  · exact ⟨by simp only; omega, fun h => by simp at h⟩
  · split
    · rename_i hp
      have := driven_bd hg (charge := s.charge) (cm := min g.speed left) (by omega) (by omega)
      refine ⟨by omega, fun h => ⟨hp.1, by omega, ?_⟩⟩
      unfold drivenF; simp only; rw [upq_100]
    · exact ⟨by simp only; omega, fun h => by simp at h⟩
theorem act_lim {g : Gt} (hg : GtGood g) {s : St} (hs : StGood g s) (t : Sp) :
    (-(max g.speed g.gravity) ≤ (actF g s t).1 ∧ (actF g s t).1 ≤ max g.speed g.gravity) ∧
      (0 < (actF g s t).2 → t.power = true ∧ t.order ≠ 0 ∧ max (actF g s t).1 (-(actF g s t).1) ≤ g.speed ∧ (actF g s t).2 = (max (actF g s t).1 (-(actF g s t).1) * g.use + 99) / 100) ∧
      (t.order = 1 → 0 ≤ (actF g s t).1) ∧ (t.order = 2 → (actF g s t).1 ≤ 0) := by
  have h1 := hg.gravity; have h2 := hg.travel; have h3 := hs.charge; have h4 := hs.pos; have h5 := hg.speed
  unfold actF
  split
  · refine ⟨by simp only; omega, fun h => by simp at h, by simp, by simp⟩
  · split
    · rename_i ho
      have := follow_bd hg hs t (closeF g s.pos t.outer t.inner) (left := g.travel - s.pos) (by omega)
      have hf := follow_lim hg hs t (closeF g s.pos t.outer t.inner) (left := g.travel - s.pos) (by omega)
      unfold closesF
      generalize followF g s t (closeF g s.pos t.outer t.inner) (g.travel - s.pos) = d at *
      refine ⟨by omega, fun h => ?_, by omega, by omega⟩
      obtain ⟨a, b, c⟩ := hf.2 h
      have e : max d.1 (-d.1) = d.1 := by omega
      rw [e]
      exact ⟨a, by omega, b, c⟩
    · split
      · have := follow_bd hg hs t (-closeF g s.pos t.outer t.inner) (left := s.pos) (by omega)
        have hf := follow_lim hg hs t (-closeF g s.pos t.outer t.inner) (left := s.pos) (by omega)
        unfold opensF
        generalize followF g s t (-closeF g s.pos t.outer t.inner) s.pos = d at *
        simp only
        refine ⟨by omega, fun h => ?_, by omega, by omega⟩
        obtain ⟨a, b, c⟩ := hf.2 h
        have e : max (-d.1) (- -d.1) = d.1 := by omega
        rw [e]
        exact ⟨a, by omega, b, c⟩
      · unfold holdsF
        split
        · exact ⟨by simp only; omega, fun h => by simp at h, by omega, by omega⟩
        · split <;> exact ⟨by simp only; omega, fun h => by simp at h, by simp only; omega, by simp only; omega⟩
theorem heldT_power (t : Sp) (r : Int) : (heldT t r).power = t.power ∧ (heldT t r).outer = t.outer ∧ (heldT t r).inner = t.inner := by
  unfold heldT; split <;> exact ⟨rfl, rfl, rfl⟩
theorem heldT_order (t : Sp) (r : Int) : (heldT t r).order = t.order ∨ (heldT t r).order = 0 := by
  unfold heldT; split
  · exact .inl rfl
  · exact .inr rfl
theorem refF_lock0 (s : St) (t : Sp) : (refF s t 0 = 0 ∨ refF s t 0 = 130) ∧ (refF s t 0 = 130 ↔ s.bolted = true ∧ t.order ≠ 0) := by
  unfold refF
  split
  · rename_i h; exact ⟨.inl rfl, by simp [h]⟩
  · rename_i h
    split
    · rename_i hb; exact ⟨.inr rfl, by simp [hb, h]⟩
    · rename_i hb; exact ⟨.inl rfl, by simp [hb]⟩
/-- What a step keeps to (P3.9). -/
theorem step_lim {g : Gt} (hg : GtGood g) {s : St} (hs : StGood g s) (t : Sp) :
    ((stepF g s t 0).1.pos = s.pos + (stepF g s t 0).2.2.1 ∧ (stepF g s t 0).1.bolted = s.bolted ∧ max (stepF g s t 0).2.2.1 (-(stepF g s t 0).2.2.1) ≤ max g.speed g.gravity) ∧
    (0 ≤ (stepF g s t 0).2.2.2 ∧ (stepF g s t 0).2.2.2 ≤ s.charge ∧ (stepF g s t 0).1.charge = min (s.charge - (stepF g s t 0).2.2.2 + (if t.power = true then g.pump else 0)) g.cap) ∧
    (0 < (stepF g s t 0).2.2.2 → t.power = true ∧ t.order ≠ 0 ∧ max (stepF g s t 0).2.2.1 (-(stepF g s t 0).2.2.1) ≤ g.speed ∧ (stepF g s t 0).2.2.2 = (max (stepF g s t 0).2.2.1 (-(stepF g s t 0).2.2.1) * g.use + 99) / 100) ∧
    (t.order = 1 → 0 ≤ (stepF g s t 0).2.2.1) ∧ (t.order = 2 → (stepF g s t 0).2.2.1 ≤ 0) ∧
    ((stepF g s t 0).2.1 = 0 ∨ (stepF g s t 0).2.1 = 130) ∧ ((stepF g s t 0).2.1 = 130 ↔ s.bolted = true ∧ t.order ≠ 0) := by
  have hr := refF_lock0 s t
  have hp := heldT_power t (refF s t 0)
  have ho := heldT_order t (refF s t 0)
  have hb := act_bd hg hs (heldT t (refF s t 0))
  have hl := act_lim hg hs (heldT t (refF s t 0))
  have hz : (heldT t (refF s t 0)).order = t.order ∨ (actF g s (heldT t (refF s t 0))) = (0, 0) := by
    by_cases h : refF s t 0 = 0
    · rw [h]; exact .inl rfl
    · right
      have hbo : s.bolted = true := by
        rcases hr.1 with q | q
        · exact absurd q h
        · exact (hr.2.1 q).1
      unfold actF; rw [if_pos hbo]
  have hc := hs.charge; have hpu := hg.pump
  unfold stepF
  simp only
  generalize refF s t 0 = r at *
  generalize actF g s (heldT t r) = d at *
  generalize heldT t r = u at *
  refine ⟨⟨trivial, trivial, by omega⟩, ⟨hb.2.2.1, hb.2.2.2, ?_⟩, fun h => ?_, fun h => ?_, fun h => ?_, hr.1, hr.2⟩
  · split
    · rfl
    · omega
  · obtain ⟨a, b, c, e⟩ := hl.2.1 h
    refine ⟨hp.1 ▸ a, ?_, c, e⟩
    rcases ho with q | q
    · rw [← q]; exact b
    · exact absurd q b
  · rcases hz with q | q
    · exact hl.2.2.1 (by rw [q, h])
    · rw [q]; exact Int.le_refl _
  · rcases hz with q | q
    · exact hl.2.2.2 (by rw [q, h])
    · rw [q]; exact Int.le_refl _
theorem step_bolted (g : Gt) {s : St} (t : Sp) (lock : Int) (h : s.bolted = true) : (stepF g s t lock).2.2.1 = 0 ∧ (stepF g s t lock).1.pos = s.pos ∧ (stepF g s t lock).1.bolted = true := by
  have e : ∀ u, actF g s u = (0, 0) := fun u => by unfold actF; rw [if_pos h]
  unfold stepF
  simp only [e]
  exact ⟨trivial, by omega, h⟩
/-- A gate that is held (P3.11). -/
theorem step_held (g : Gt) {s : St} {t : Sp} (hb : s.bolted ≠ true) (ho : t.order = 0) : (stepF g s t 0).2.2.1 = (holdsF g s t).1 := by
  have hr : refF s t 0 = 0 := by unfold refF; rw [if_pos ho]
  unfold stepF
  simp only [hr]
  rw [show heldT t 0 = t from rfl]
  unfold actF
  rw [if_neg hb, if_neg (by omega), if_neg (by omega)]
theorem held_lim {g : Gt} (hg : GtGood g) {s : St} (hs : StGood g s) {t : Sp} (ht : SpGood t) :
    (max (closeF g s.pos t.outer t.inner) (-closeF g s.pos t.outer t.inner) ≤ g.brake + frictF g s.pos t.outer t.inner → (holdsF g s t).1 = 0) ∧
    (¬ max (closeF g s.pos t.outer t.inner) (-closeF g s.pos t.outer t.inner) ≤ g.brake + frictF g s.pos t.outer t.inner → (0 < closeF g s.pos t.outer t.inner → (holdsF g s t).1 = min g.gravity (g.travel - s.pos)) ∧ (¬ 0 < closeF g s.pos t.outer t.inner → (holdsF g s t).1 = -min g.gravity s.pos)) := by
  have h1 := hg.brake; have h2 := frict_bd (pos := s.pos) hg ht.outer ht.inner
  unfold holdsF
  generalize closeF g s.pos t.outer t.inner = c at *
  generalize frictF g s.pos t.outer t.inner = f at *
  refine ⟨fun h => ?_, fun h => ⟨fun h' => ?_, fun h' => ?_⟩⟩
  · rw [if_neg (by omega), if_neg (by omega)]
  · rw [if_pos (by omega)]
  · rw [if_neg (by omega), if_pos (by omega)]

/-! ### Sets -/
structure Ru where
  gate : Int
  other : Int
  lo : Int
  hi : Int
  deriving Inhabited, DecidableEq
/-- The first of n places at which something holds, or -1. -/
def idxP (f : Nat → Bool) : Nat → Nat → Int
  | _, 0 => -1
  | k, n + 1 => if f k = true then (k : Int) else idxP f (k + 1) n
theorem idxP_yes {f : Nat → Bool} {k n : Nat} (h : k < n) (he : f k = true) : idxP f k (n - k) = (k : Int) := by
  obtain ⟨m, hm⟩ : ∃ m, n - k = m + 1 := ⟨n - k - 1, by omega⟩
  rw [hm]; simp [idxP, he]
theorem idxP_no {f : Nat → Bool} {k n : Nat} (h : k < n) (he : f k = false) : idxP f k (n - k) = idxP f (k + 1) (n - (k + 1)) := by
  obtain ⟨m, hm⟩ : ∃ m, n - k = m + 1 := ⟨n - k - 1, by omega⟩
  have hm' : n - (k + 1) = m := by omega
  rw [hm, hm']; simp [idxP, he]
theorem idxP_some {f : Nat → Bool} {k n : Nat} : 0 ≤ idxP f k n ↔ ∃ j, k ≤ j ∧ j < k + n ∧ f j = true := by
  induction n generalizing k with
  | zero => simp [idxP]; intro j h1 h2; omega
  | succ n ih =>
    simp only [idxP]
    by_cases h : f k = true
    · rw [if_pos h]; exact ⟨fun _ => ⟨k, Nat.le_refl _, by omega, h⟩, fun _ => by omega⟩
    · rw [if_neg h, ih]
      constructor
      · rintro ⟨j, h1, h2, h3⟩; exact ⟨j, by omega, by omega, h3⟩
      · rintro ⟨j, h1, h2, h3⟩
        by_cases hj : j = k
        · exact absurd (hj ▸ h3) h
        · exact ⟨j, by omega, by omega, h3⟩
theorem idxP_range {f : Nat → Bool} {k n : Nat} : -1 ≤ idxP f k n ∧ idxP f k n < (k + n : Nat) := by
  induction n generalizing k with
  | zero => simp [idxP]; omega
  | succ n ih =>
    simp only [idxP]
    split
    · omega
    · have := ih (k := k + 1); omega
/-- At the place that is found it holds, and at none before. -/
theorem idxP_at {f : Nat → Bool} {k n j : Nat} (h : idxP f k n = (j : Int)) : k ≤ j ∧ j < k + n ∧ f j = true ∧ ∀ i, k ≤ i → i < j → f i = false := by
  induction n generalizing k with
  | zero => simp [idxP] at h <;> omega
  | succ n ih =>
    simp only [idxP] at h
    by_cases hk : f k = true
    · rw [if_pos hk] at h
      have : k = j := by omega
      subst this
      exact ⟨Nat.le_refl _, by omega, hk, fun i h1 h2 => by omega⟩
    · rw [if_neg hk] at h
      obtain ⟨h1, h2, h3, h4⟩ := ih h
      refine ⟨by omega, by omega, h3, fun i h5 h6 => ?_⟩
      by_cases hi : i = k
      · subst hi; simpa using hk
      · exact h4 i (by omega) h6
theorem idxP_none {f : Nat → Bool} {k n : Nat} (h : idxP f k n < 0) : ∀ i, k ≤ i → i < k + n → f i = false := by
  intro i h1 h2
  have := mt (idxP_some (f := f) (k := k) (n := n)).2 (by omega)
  cases hf : f i
  · rfl
  · exact absurd ⟨i, h1, h2, hf⟩ this

/-! #### The check of a set -/
def ruE (n : Nat) (r : Ru) : Int :=
  if inB r.gate 0 ((n : Int) - 1) = false ∨ inB r.other 0 ((n : Int) - 1) = false then 4 else if r.gate = r.other then 2
  else if inB r.lo 0 r.hi = false ∨ inB r.hi 0 5000 = false then 7 else 0
def gaTw (gs : List Gt) (i j : Nat) : Bool := (gs.getD j default).name.toList == (gs.getD i default).name.toList
def gaE (gs : List Gt) (i : Nat) : Int := if gtE (gs.getD i default) ≠ 0 then gtE (gs.getD i default) else if 0 ≤ idxP (gaTw gs i) 0 i then 5 else 0
def gasP (gs : List Gt) : Int × Int := (firstAt 0 [mustP (inB gs.length 1 6) 0 3, eachP (gaE gs) 0 gs.length]).2
def rusP (n : Nat) (rs : List Ru) : Int × Int := (firstAt 0 [mustP (decide ((rs.length : Int) ≤ 12)) 0 3, eachP (fun i => ruE n (rs.getD i default)) 0 rs.length]).2
def setP (gs : List Gt) (rs : List Ru) : Int × Int × Int := firstAt 0 [gasP gs, rusP gs.length rs]
structure SetGood (gs : List Gt) (rs : List Ru) : Prop where
  glen : 1 ≤ gs.length ∧ gs.length ≤ 6
  gates : ∀ i, i < gs.length → GtGood (gs.getD i default)
  rlen : rs.length ≤ 12
  rules : ∀ i, i < rs.length → (0 ≤ (rs.getD i default).gate ∧ (rs.getD i default).gate < gs.length) ∧ (0 ≤ (rs.getD i default).other ∧ (rs.getD i default).other < gs.length)
theorem setGood {gs : List Gt} {rs : List Ru} (h : (setP gs rs).2.2 = 0) : SetGood gs rs := by
  unfold setP at h
  rw [firstAt_all] at h
  simp only [List.mem_cons, List.not_mem_nil, or_false, forall_eq_or_imp, forall_eq] at h
  unfold gasP rusP at h
  rw [firstAt_all, firstAt_all] at h
  simp only [List.mem_cons, List.not_mem_nil, or_false, forall_eq_or_imp, forall_eq, each_all0] at h
  rw [must_zero (by decide), must_zero (by decide)] at h
  simp only [inB_iff, decide_eq_true_eq] at h
  obtain ⟨⟨h1, h2⟩, h3, h4⟩ := h
  refine ⟨by omega, fun i hi => ?_, by omega, fun i hi => ?_⟩
  · have := h2 i (Nat.zero_le _) (by omega)
    unfold gaE at this
    split at this
    · rename_i hne; exact absurd this hne
    · rename_i hne
      exact gtGood (by simpa using hne)
  · have := h4 i (Nat.zero_le _) (by omega)
    unfold ruE at this
    split at this
    · cases this
    · rename_i hn
      simp only [not_or, Bool.not_eq_false, inB_iff] at hn
      omega

/-! #### Steps of a set -/
def offB (r : Ru) (i : Nat) (ss : List St) : Bool := decide (r.gate = (i : Int)) && !inB (ss.getD r.other.toNat default).pos r.lo r.hi
def lockF (rs : List Ru) (i : Nat) (ss : List St) (ship : Bool) : Int := if ship = true then 131 else if 0 ≤ idxP (fun k => offB (rs.getD k default) i ss) 0 rs.length then 132 else 0
def moveF (gs : List Gt) (rs : List Ru) (ss : List St) (ts : List Sp) (ships : List Bool) (i : Nat) : St × Int × Int × Int :=
  stepF (gs.getD i default) (ss.getD i default) (ts.getD i default) (lockF rs i ss (ships.getD i false))
def nextF (gs : List Gt) (rs : List Ru) (ss : List St) (ts : List Sp) (ships : List Bool) : List St := (List.range gs.length).map fun i => (moveF gs rs ss ts ships i).1
def shutB (gs : List Gt) (ss : List St) : Bool := (List.range gs.length).all fun i => decide ((ss.getD i default).pos = (gs.getD i default).travel)
/-- After how many steps all gates are shut, counted from n on, of at most f. -/
def searchF (gs : List Gt) (rs : List Ru) (ts : List Sp) (ships : List Bool) : Nat → Nat → List St → Int × Int
  | n, 0, ss => if shutB gs ss = true then ((n : Int), 0) else (0, 9)
  | n, f + 1, ss => if shutB gs ss = true then ((n : Int), 0) else searchF gs rs ts ships (n + 1) f (nextF gs rs ss ts ships)
def stsE (gs : List Gt) (ss : List St) (ts : List Sp) (i : Nat) : Int := spE (gs.getD i default) (ss.getD i default) (ts.getD i default)
def stsP (gs : List Gt) (ss : List St) (ts : List Sp) (m : Nat) : Int := (firstAt 0 [mustP (decide (ss.length = gs.length ∧ ts.length = gs.length ∧ m = gs.length)) 0 2, eachP (stsE gs ss ts) 0 gs.length]).2.2
def toCloseT (o i : Int) (p : Bool) : Sp := ⟨1, p, o, i⟩
def delayP (gs : List Gt) (rs : List Ru) (ss : List St) (o i : Int) (p : Bool) : Int × Int :=
  if (setP gs rs).2.2 ≠ 0 then (0, (setP gs rs).2.2) else
  let ts := List.replicate gs.length (toCloseT o i p)
  if stsP gs ss ts gs.length ≠ 0 then (0, stsP gs ss ts gs.length) else
  let r := searchF gs rs ts (List.replicate gs.length false) 0 2000 ss
  (upq r.1 10, r.2)

/-! ### What one gate's functions return -/
def lvB (o i : Int) : Bool := inB o (-20000) 20000 && inB i (-20000) 20000
def forceP (g : Gt) (x o i : Int) : Int × Int × Int := if gtE g ≠ 0 then (0, 0, gtE g) else if inB x 0 g.travel = false ∨ lvB o i = false then (0, 0, 7) else (closeF g x o i, frictF g x o i, 0)
def fallF (g : Gt) (o i : Int) : Int := idxP (fun k => decide (closeF g k o i ≤ frictF g k o i)) 0 g.travel.toNat
def fallsP (g : Gt) (o i : Int) : Int × Int := if gtE g ≠ 0 then (0, gtE g) else if lvB o i = false then (0, 7) else (fallF g o i, 0)
def stepP (g : Gt) (s : St) (t : Sp) : (St × Int × Int × Int) × Int := if gtE g ≠ 0 then ((⟨0, 0, false⟩, 0, 0, 0), gtE g) else if spE g s t ≠ 0 then ((⟨0, 0, false⟩, 0, 0, 0), spE g s t) else (stepF g s t 0, 0)
def timeP (g : Gt) (s : St) (o i : Int) (p : Bool) : Int × Int :=
  if gtE g ≠ 0 then (0, gtE g) else if spE g s (toCloseT o i p) ≠ 0 then (0, spE g s (toCloseT o i p)) else searchF [g] [] [toCloseT o i p] [false] 0 2000 [s]
theorem spGoods {g : Gt} {s : St} {t : Sp} (h : spE g s t = 0) : StGood g s ∧ SpGood t := by
  unfold spE at h
  split at h
  · rename_i hn; exact absurd h hn
  · rename_i hn
    exact ⟨stGood (by simpa using hn), spGood h⟩
end Go.Proofs.YtdoklolinbmhpaaGreat
