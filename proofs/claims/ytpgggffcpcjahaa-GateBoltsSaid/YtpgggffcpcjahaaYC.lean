/- Gate, part YC: sensors: with which positions they agree. -/
import Derived.Test.YtpgggffcpcjahaaWZ
set_option linter.all false
namespace Go.Proofs.Ytpgggffcpcjahaa
open Go.RowKit

/-- Whether a sensor agrees with a position, by its reading. -/
def agB (s : Sen) (r x : Int) : Bool := if s.kind = 1 then inB r (x - s.tol) (x + s.tol) else if r = 1 then decide (s.at_ - s.tol ≤ x) else if r = 0 then decide (x ≤ s.at_ + s.tol) else false
/-- With how many of the first sensors a position agrees. -/
def cntAg (ss : List Sen) (rs : List Int) (x : Int) : Nat → Nat
  | 0 => 0
  | k + 1 => cntAg ss rs x k + if agB (ss.getD k default) (rs.getD k 0) x = true then 1 else 0
theorem cntAg_le (ss : List Sen) (rs : List Int) (x : Int) : ∀ k, cntAg ss rs x k ≤ k
  | 0 => Nat.le_refl _
  | k + 1 => by unfold cntAg; have := cntAg_le ss rs x k; split <;> omega
def enB (g : Gt) (rs : List Int) (x : Int) : Bool := decide ((g.ss.length : Int) - g.wrong ≤ (cntAg g.ss rs x g.ss.length : Int))
/-- The positions from 0 on, before a number, with which enough sensors agree. -/
def posL (g : Gt) (rs : List Int) : Nat → List Int
  | 0 => []
  | k + 1 => posL g rs k ++ if enB g rs k = true then [(k : Int)] else []
theorem posL_len (g : Gt) (rs : List Int) : ∀ k, (posL g rs k).length ≤ k
  | 0 => Nat.le_refl _
  | k + 1 => by unfold posL; have := posL_len g rs k; split <;> simp <;> omega
theorem posL_mem {g : Gt} {rs : List Int} {x : Int} : ∀ {k : Nat}, x ∈ posL g rs k ↔ 0 ≤ x ∧ x < k ∧ enB g rs x = true
  | 0 => by simp [posL]; omega
  | k + 1 => by
    unfold posL
    rw [List.mem_append, posL_mem (k := k)]
    constructor
    · rintro (⟨h1, h2, h3⟩ | h)
      · exact ⟨h1, by omega, h3⟩
      · split at h
        · rename_i hc
          have : x = (k : Int) := by simpa using h
          subst this
          exact ⟨by omega, by omega, hc⟩
        · simp at h
    · rintro ⟨h1, h2, h3⟩
      by_cases e : x = (k : Int)
      · subst e; right; rw [if_pos h3]; simp
      · left; exact ⟨h1, by omega, h3⟩
/-- The first and the last of them, as they are gathered; -1: there is none. -/
def lohiF (p : Int × Int) (x : Int) : Int × Int := (if p.1 = -1 then x else p.1, x)
def lohi (l : List Int) : Int × Int := l.foldl lohiF (-1, -1)
theorem lohi_snoc (l : List Int) (x : Int) : lohi (l ++ [x]) = lohiF (lohi l) x := by simp [lohi]
/-- Ascending positions: the first one is at most each of them, the last one at least. -/
theorem lohi_pos (g : Gt) (rs : List Int) : ∀ k : Nat, ((lohi (posL g rs k)).1 = -1 ∧ (lohi (posL g rs k)).2 = -1 ∧ posL g rs k = []) ∨
    ((lohi (posL g rs k)).1 ∈ posL g rs k ∧ (lohi (posL g rs k)).2 ∈ posL g rs k ∧ ∀ x ∈ posL g rs k, (lohi (posL g rs k)).1 ≤ x ∧ x ≤ (lohi (posL g rs k)).2)
  | 0 => .inl ⟨rfl, rfl, rfl⟩
  | k + 1 => by
    have hm := fun x => posL_mem (g := g) (rs := rs) (x := x) (k := k)
    unfold posL
    by_cases h : enB g rs k = true
    · rw [if_pos h, lohi_snoc]
      right
      rcases lohi_pos g rs k with ⟨h1, h2, h3⟩ | ⟨h1, h2, h3⟩
      · rw [h3]; simp [lohi, lohiF]
      · have h0 := (hm _).1 h1
        have hl : lohiF (lohi (posL g rs k)) k = ((lohi (posL g rs k)).1, (k : Int)) := by unfold lohiF; rw [if_neg (by omega)]
        rw [hl]
        refine ⟨List.mem_append_left _ h1, List.mem_append_right _ (by simp), fun x hx => ?_⟩
        rcases List.mem_append.1 hx with hx | hx
        · have := h3 x hx; have := (hm x).1 hx; simp only; omega
        · have : x = (k : Int) := by simpa using hx
          subst this; simp only; omega
    · rw [if_neg h, List.append_nil]
      exact lohi_pos g rs k
/-- What Where returns. -/
def whereP (g : Gt) (rs : List Int) : (Int × Int) × Int :=
  if gtE g ≠ 0 then ((0, 0), gtE g) else if rs.length ≠ g.ss.length then ((0, 0), 2) else
  if (lohi (posL g rs (g.travel + 1).toNat)).1 = -1 then ((0, 0), 9) else (lohi (posL g rs (g.travel + 1).toNat), 0)

structure SenGood (s : Sen) : Prop where
  kind : 1 ≤ s.kind ∧ s.kind ≤ 2
  at_ : 0 ≤ s.at_ ∧ s.at_ ≤ 5000
  tol : 0 ≤ s.tol ∧ s.tol ≤ 5000
theorem senGood {s : Sen} (h : senE s = 0) : SenGood s := by
  unfold senE at h
  split at h
  · cases h
  · rename_i h1
    split at h
    · cases h
    · rename_i h2
      simp only [not_or, Bool.not_eq_false, inB_iff] at h1 h2
      exact ⟨h1.1, h2.1, h2.2⟩
set_option maxRecDepth 100000 in
set_option maxHeartbeats 2000000 in
theorem agrees_any (s : Sen) (r x : Int) (w : World) (hs : SenGood s) (hx : 0 ≤ x ∧ x ≤ 5000) :
    Calls Try.prog 108 #[.agg #[.int .i64 s.kind, .int .i64 s.at_, .int .i64 s.tol], .int .i64 r, .int .i64 x] w fun e w' => e = .returned (.bool (agB s r x)) ∧ Below w.heap.size w w' := by
  have h1 := hs.at_; have h2 := hs.tol
  have v1 : IntKind.i64.wrap (x - s.tol) = x - s.tol := IntWalk.i64_in _ (by omega)
  have v2 : IntKind.i64.wrap (x + s.tol) = x + s.tol := IntWalk.i64_in _ (by omega)
  have v3 : IntKind.i64.wrap (s.at_ - s.tol) = s.at_ - s.tol := IntWalk.i64_in _ (by omega)
  have v4 : IntKind.i64.wrap (s.at_ + s.tol) = s.at_ + s.tol := IntWalk.i64_in _ (by omega)
  obtain ⟨y, hy⟩ : ∃ y, agB s r x = y := ⟨_, rfl⟩
  have HE := hid (show y = if s.kind = 1 then inB r (x - s.tol) (x + s.tol) else if r = 1 then decide (s.at_ - s.tol ≤ x) else if r = 0 then decide (x ≤ s.at_ + s.tol) else false by rw [← hy]; rfl)
  rw [hy]
  clear hy h1 h2 hs hx
  by_cases hk : s.kind = 1
  · have q : (s.kind == 1) = true := by simp [hk]
    have HR := hid (HE.out.trans (if_pos hk))
    clear hk HE
    go_enter Try.func108, Try.ntmps108
    go_wp2_with (go_at_call 59; refine (in_any _ _ _ _).mono ?_; rintro e w' ⟨rfl, rfl⟩)
    go_ret
    exact ⟨ret_bool HR.out.symm, (Below.refl _ _).alloc (Nat.le_refl _) _⟩
  · have q : (s.kind == 1) = false := by simp [hk]
    by_cases h1 : r = 1
    · have q1 : (r == 1) = true := by simp [h1]
      have HR := hid (HE.out.trans ((if_neg hk).trans (if_pos h1)))
      clear hk h1 HE
      go_enter Try.func108, Try.ntmps108
      go_wp2_with fail
      go_ret
      exact ⟨ret_bool HR.out.symm, (Below.refl _ _).alloc (Nat.le_refl _) _⟩
    · have q1 : (r == 1) = false := by simp [h1]
      by_cases h0 : r = 0
      · have q0 : (r == 0) = true := by simp [h0]
        have HR := hid (HE.out.trans ((if_neg hk).trans ((if_neg h1).trans (if_pos h0))))
        clear hk h1 h0 HE
        go_enter Try.func108, Try.ntmps108
        go_wp2_with fail
        go_ret
        exact ⟨ret_bool HR.out.symm, (Below.refl _ _).alloc (Nat.le_refl _) _⟩
      · have q0 : (r == 0) = false := by simp [h0]
        have HR := hid (HE.out.trans ((if_neg hk).trans ((if_neg h1).trans (if_neg h0))))
        clear hk h1 h0 HE
        go_enter Try.func108, Try.ntmps108
        go_wp2_with fail
        go_ret
        exact ⟨ret_bool HR.out.symm, (Below.refl _ _).alloc (Nat.le_refl _) _⟩
/-- agreed: the gate and the readings are boxed; the function value captures the boxes. -/
theorem agreed_any (g : Gt) (p : GtP) (ra : Option Addr) (m mc : Nat) (w : World) :
    Calls Try.prog 69 #[.agg (gtL g p).toArray, .slice ra m mc] w fun e w' => e = .returned (.func (.func 107) #[] #[.pointer (some ⟨w.heap.size, 0, none⟩), .pointer (some ⟨w.heap.size + 1, 0, none⟩)]) ∧
      w' = ((w.alloc (.cells (gtL g p).toArray 33)).alloc (.cells #[.slice ra m mc] 30)) := by
  go_enter Try.func69, Try.ntmps69
  go_wp2
  go_ret
  exact ⟨rfl, rfl⟩
end Go.Proofs.Ytpgggffcpcjahaa
