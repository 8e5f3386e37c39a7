/- Gate, part YC: sensors: with which positions they agree. -/
import Derived.Test.YtdoklolinbmhpaaGreatWZ
import Derived.Test.YtdoklolinbmhpaaGreatYB
import Derived.RangeFuncNested
import Derived.RangeFuncKeeps
import Derived.RangeFuncBound
import Derived.RangeFuncCalls
import Derived.RangeFuncLeaves
import Derived.RangeFuncBox
import Derived.Shelf.Abstract
import Derived.Shelf.RegionOpen
import Derived.OwnWalkIn
import Derived.TacticsInMore
import Derived.LoopNIn
import Derived.LoopIn
import Derived.Maps.AppendAt
import Derived.Lib.QuietBelowIn
import Derived.Deep.Onto
import Derived.Deep.Cut
set_option linter.all false
namespace Go.Proofs.YtdoklolinbmhpaaGreat
open Go.RowKit

/-- Whether a sensor agrees with a position, by its reading. -/
def agB (s : Sen) (r x : Int) : Bool := if s.kind = 1 then inB r (x - s.tol) (x + s.tol) else if r = 1 then decide (s.at_ - s.tol ≤ x) else if r = 0 then decide (x ≤ s.at_ + s.tol) else false
/-- With how many of the first sensors a position agrees. -/
def cntAg (ss : List Sen) (rs : List Int) (x : Int) : Nat → Nat
  | 0 => 0
  | k + 1 => cntAg ss rs x k + if agB (ss.getD k default) (rs.getD k 0) x = true then 1 else 0
theorem cntAg_le (ss : List Sen) (rs : List Int) (x : Int) : ∀ k, cntAg ss rs x k ≤ k
  | 0 => Nat.le_refl _
  | k + 1 => by unfold cntAg; have := cntAg_le ss rs x k; split <;> omega
def enB (g : Gt) (rs : List Int) (x : Int) : Bool := decide ((g.ss.length : Int) - g.wrong ≤ (cntAg g.ss rs x g.ss.length : Int))
/-- The positions from 0 on, before a number, with which enough sensors agree. -/
def posL (g : Gt) (rs : List Int) : Nat → List Int
  | 0 => []
  | k + 1 => posL g rs k ++ if enB g rs k = true then [(k : Int)] else []
theorem posL_len (g : Gt) (rs : List Int) : ∀ k, (posL g rs k).length ≤ k
  | 0 => Nat.le_refl _
  | k + 1 => by unfold posL; have := posL_len g rs k; split <;> simp <;> omega
theorem posL_mem {g : Gt} {rs : List Int} {x : Int} : ∀ {k : Nat}, x ∈ posL g rs k ↔ 0 ≤ x ∧ x < k ∧ enB g rs x = true
  | 0 => by simp [posL]; omega
  | k + 1 => by
    unfold posL
    rw [List.mem_append, posL_mem (k := k)]
    constructor
    · rintro (⟨h1, h2, h3⟩ | h)
      · exact ⟨h1, by omega, h3⟩
      · split at h
        · rename_i hc
          have : x = (k : Int) := by simpa using h
          subst this
          exact ⟨by omega, by omega, hc⟩
        · simp at h
    · rintro ⟨h1, h2, h3⟩
      by_cases e : x = (k : Int)
      · subst e; right; rw [if_pos h3]; simp
      · left; exact ⟨h1, by omega, h3⟩
/-- The first and the last of them, as they are gathered; -1: there is none. -/
def lohiF (p : Int × Int) (x : Int) : Int × Int := (if p.1 = -1 then x else p.1, x)
def lohi (l : List Int) : Int × Int := l.foldl lohiF (-1, -1)
theorem lohi_snoc (l : List Int) (x : Int) : lohi (l ++ [x]) = lohiF (lohi l) x := by simp [lohi]
/-- Ascending positions: the first one is at most each of them, the last one at least. -/
theorem lohi_pos (g : Gt) (rs : List Int) : ∀ k : Nat, ((lohi (posL g rs k)).1 = -1 ∧ (lohi (posL g rs k)).2 = -1 ∧ posL g rs k = []) ∨
    ((lohi (posL g rs k)).1 ∈ posL g rs k ∧ (lohi (posL g rs k)).2 ∈ posL g rs k ∧ ∀ x ∈ posL g rs k, (lohi (posL g rs k)).1 ≤ x ∧ x ≤ (lohi (posL g rs k)).2)
  | 0 => .inl ⟨rfl, rfl, rfl⟩
  | k + 1 => by
    have hm := fun x => posL_mem (g := g) (rs := rs) (x := x) (k := k)
    unfold posL
    by_cases h : enB g rs k = true
    · rw [if_pos h, lohi_snoc]
      right
      rcases lohi_pos g rs k with ⟨h1, h2, h3⟩ | ⟨h1, h2, h3⟩
      · rw [h3]; simp [lohi, lohiF]
      · have h0 := (hm _).1 h1
        have hl : lohiF (lohi (posL g rs k)) k = ((lohi (posL g rs k)).1, (k : Int)) := by unfold lohiF; rw [if_neg (by omega)]
        rw [hl]
        refine ⟨List.mem_append_left _ h1, List.mem_append_right _ (by simp), fun x hx => ?_⟩
        rcases List.mem_append.1 hx with hx | hx
        · have := h3 x hx; have := (hm x).1 hx; simp only; omega
        · have : x = (k : Int) := by simpa using hx
          subst this; simp only; omega
    · rw [if_neg h, List.append_nil]
      exact lohi_pos g rs k
/-- What Where returns. -/
def whereP (g : Gt) (rs : List Int) : (Int × Int) × Int :=
  if gtE g ≠ 0 then ((0, 0), gtE g) else if rs.length ≠ g.ss.length then ((0, 0), 2) else
  if (lohi (posL g rs (g.travel + 1).toNat)).1 = -1 then ((0, 0), 9) else (lohi (posL g rs (g.travel + 1).toNat), 0)

structure SenGood (s : Sen) : Prop where
  kind : 1 ≤ s.kind ∧ s.kind ≤ 2
  at_ : 0 ≤ s.at_ ∧ s.at_ ≤ 5000
  tol : 0 ≤ s.tol ∧ s.tol ≤ 5000
theorem senGood {s : Sen} (h : senE s = 0) : SenGood s := by
  unfold senE at h
  split at h
  · cases h
  · rename_i h1
    split at h
    · cases h
    · rename_i h2
      simp only [not_or, Bool.not_eq_false, inB_iff] at h1 h2
      exact ⟨h1.1, h2.1, h2.2⟩
set_option maxRecDepth 100000 in
set_option maxHeartbeats 2000000 in
theorem agrees_any (s : Sen) (r x : Int) (w : World) (hs : SenGood s) (hx : 0 ≤ x ∧ x ≤ 5000) :
    Calls Tryz.prog 81 #[.agg #[.int .i64 s.kind, .int .i64 s.at_, .int .i64 s.tol], .int .i64 r, .int .i64 x] w fun e w' => e = .returned (.bool (agB s r x)) ∧ Below w.heap.size w w' := by
  have h1 := hs.at_; have h2 := hs.tol
  have v1 : IntKind.i64.wrap (x - s.tol) = x - s.tol := IntWalk.i64_in _ (by omega)
  have v2 : IntKind.i64.wrap (x + s.tol) = x + s.tol := IntWalk.i64_in _ (by omega)
  have v3 : IntKind.i64.wrap (s.at_ - s.tol) = s.at_ - s.tol := IntWalk.i64_in _ (by omega)
  have v4 : IntKind.i64.wrap (s.at_ + s.tol) = s.at_ + s.tol := IntWalk.i64_in _ (by omega)
  obtain ⟨y, hy⟩ : ∃ y, agB s r x = y := ⟨_, rfl⟩
  have HE := hid (show y = if s.kind = 1 then inB r (x - s.tol) (x + s.tol) else if r = 1 then decide (s.at_ - s.tol ≤ x) else if r = 0 then decide (x ≤ s.at_ + s.tol) else false by rw [← hy]; rfl)
  rw [hy]
  clear hy h1 h2 hs hx
  by_cases hk : s.kind = 1
  · have q : (s.kind == 1) = true := by simp [hk]
    have HR := hid (HE.out.trans (if_pos hk))
    clear hk HE
    go_enter Tryz.func81, Tryz.ntmps81
    go_wp2_with (go_at_call 73; refine (in_any _ _ _ _).mono ?_; rintro e w' ⟨rfl, rfl⟩)
    go_ret
    exact ⟨ret_bool HR.out.symm, (Below.refl _ _).alloc (Nat.le_refl _) _⟩
  · have q : (s.kind == 1) = false := by simp [hk]
    by_cases h1 : r = 1
    · have q1 : (r == 1) = true := by simp [h1]
      have HR := hid (HE.out.trans ((if_neg hk).trans (if_pos h1)))
      clear hk h1 HE
      go_enter Tryz.func81, Tryz.ntmps81
      go_wp2_with fail
      go_ret
      exact ⟨ret_bool HR.out.symm, (Below.refl _ _).alloc (Nat.le_refl _) _⟩
    · have q1 : (r == 1) = false := by simp [h1]
      by_cases h0 : r = 0
      · have q0 : (r == 0) = true := by simp [h0]
        have HR := hid (HE.out.trans ((if_neg hk).trans ((if_neg h1).trans (if_pos h0))))
        clear hk h1 h0 HE
        go_enter Tryz.func81, Tryz.ntmps81
        go_wp2_with fail
        go_ret
        exact ⟨ret_bool HR.out.symm, (Below.refl _ _).alloc (Nat.le_refl _) _⟩
      · have q0 : (r == 0) = false := by simp [h0]
        have HR := hid (HE.out.trans ((if_neg hk).trans ((if_neg h1).trans (if_neg h0))))
        clear hk h1 h0 HE
        go_enter Tryz.func81, Tryz.ntmps81
        go_wp2_with fail
        go_ret
        exact ⟨ret_bool HR.out.symm, (Below.refl _ _).alloc (Nat.le_refl _) _⟩
/-- agreed: the gate and the readings are boxed; the function value captures the boxes. -/
theorem agreed_any (g : Gt) (p : GtP) (ra : Option Addr) (m mc : Nat) (w : World) :
    Calls Tryz.prog 47 #[.agg (gtL g p).toArray, .slice ra m mc] w fun e w' => e = .returned (.func (.func 80) #[] #[.pointer (some ⟨w.heap.size, 0, none⟩), .pointer (some ⟨w.heap.size + 1, 0, none⟩)]) ∧
      w' = ((w.alloc (.cells (gtL g p).toArray 25)).alloc (.cells #[.slice ra m mc] 22)) := by
  go_enter Tryz.func47, Tryz.ntmps47
  go_wp2
  go_ret
  exact ⟨rfl, rfl⟩
end Go.Proofs.YtdoklolinbmhpaaGreat

set_option linter.all false
namespace Go.Proofs.YtdoklolinbmhpaaGreat
open Go.RowKit Go.Shelf Go.Sort
attribute [local go_sem] Oper.semAt_some

/-- What a round keeps: all below n₀, and the two blocks behind it. -/
structure KeepF (n₀ : Nat) (A B : World) : Prop where
  low : Below n₀ A B
  box : ∀ i, n₀ < i → i < n₀ + 3 → B.heap[i]? = A.heap[i]?
theorem KeepF.refl (n₀ : Nat) (A : World) : KeepF n₀ A A := ⟨Below.refl _ _, fun _ _ _ => rfl⟩
theorem KeepF.trans {n₀ : Nat} {A B C : World} (h : KeepF n₀ A B) (k : KeepF n₀ B C) : KeepF n₀ A C := ⟨h.low.trans k.low, fun i h1 h2 => (k.box i h1 h2).trans (h.box i h1 h2)⟩
theorem KeepF.of_below {n₀ B : Nat} {A C : World} (h : Below B A C) (hB : n₀ + 3 ≤ B) : KeepF n₀ A C := ⟨h.mono (by omega), fun i _ h2 => h.block i (by omega)⟩
theorem KeepF.cell {n₀ : Nat} {A B : World} (h : KeepF n₀ A B) {i : Nat} (h1 : n₀ < i) (h2 : i < n₀ + 3) (o : Nat) : B.cell? ⟨i, o, none⟩ = A.cell? ⟨i, o, none⟩ := World.cell?_of_block (a := ⟨i, o, none⟩) (h.box i h1 h2)
theorem KeepF.range {n₀ : Nat} {A B : World} (h : KeepF n₀ A B) {i : Nat} (h1 : n₀ < i) (h2 : i < n₀ + 3) {cs : List Value} (hr : A.rangeAt i 0 cs) : B.rangeAt i 0 cs := fun j v hv => (h.cell h1 h2 _).trans (hr j v hv)
theorem KeepF.put {n₀ : Nat} {w : World} (hn : n₀ + 3 ≤ w.heap.size) (W : World) (l : Nat) (o o' : Obj) (hl : w.heap.size ≤ l) (h : W.heap[l]? = some o) (hc : o.isCells = false) (hw : o.isWalk = false) : KeepF n₀ W (W.putObj l o') :=
  KeepF.of_below (belowK_b (n₀ := n₀ + 3) (w := w) hn W l o o' hl h hc hw) (Nat.le_refl _)
def encPos (x : Int) : Array Value := #[.int .i64 x]
theorem cntAg_succ (ss : List Sen) (rs : List Int) (x : Int) {k : Nat} {s : Sen} {r : Int} {y : Bool} (hs : ss.getD k default = s) (hr : rs.getD k 0 = r) (hy : agB s r x = y) : cntAg ss rs x (k + 1) = cntAg ss rs x k + (if y = true then 1 else 0) := by
  rw [← hy, ← hs, ← hr]; rfl
set_option maxRecDepth 100000 in
set_option maxHeartbeats 8000000 in
/-- agreed's function value: for every loop's body that keeps what lay below n₀. -/
theorem ag1_in (n : Nat) (hn : 1 ≤ n) (l n₀ mc N : Nat) (g : Gt) (p : GtP) (ra : Option Addr) (rs : List Int) (hg : GtGood g) (hN : (N : Int) = g.travel + 1) (hrl : rs.length = g.ss.length) (J Jx : List Int → World → Prop) (hJ : ∀ (s : List Int) (W W' : World), J s W → Below W.heap.size W W' → J s W')
    (hY : ∀ pre x W, J pre W → pre.length < N → YieldAt Fence.wide (n - 1) Tryz.prog l (encPos x) W fun e W' =>
      (e = .returned (.bool true) ∧ J (pre ++ [x]) W' ∧ KeepF n₀ W W') ∨ (e = .returned (.bool false) ∧ Jx (pre ++ [x]) W'))
    (W : World) (h0 : W.rangeAt (n₀ + 1) 0 (gtL g p)) (h1 : W.cell? ⟨n₀ + 2, 0, none⟩ = some (.slice ra rs.length mc)) (hn₀ : n₀ + 3 ≤ W.heap.size)
    (w0 : World) (hw0 : w0.heap.size ≤ n₀) (hwW : Below w0.heap.size w0 W) (hss : SensAt w0 p.sa g.ss) (hra : IntsAt w0 ra rs) (hj0 : J [] W) :
    CallsIn Fence.wide n Tryz.prog 80 #[.func (.yield l) #[] #[], .pointer (some ⟨n₀ + 1, 0, none⟩), .pointer (some ⟨n₀ + 2, 0, none⟩)] W fun e W' => (∃ v, e = .returned v) ∧
      ((∃ ys, ys = posL g rs N ∧ J ys W') ∨ (∃ pre, True ∧ Jx pre W')) := by
  obtain ⟨sa, hsa⟩ : ∃ sa, p.sa = sa := ⟨_, rfl⟩
  rw [hsa] at hss
  have HSa := hid hsa
  clear hsa
  have HG := hid hg; have HJ := hid hJ; have HYd := hid hY; have HSs := hid hss; have HRa := hid hra; have HRl := hid hrl
  have htr := hg.travel
  have hsl := hg.slen
  have hwr := hg.wrong
  have HSl := hid hsl; have HTr := hid htr; have HNn := hid hN; have HWr := hid hwr
  have v1 : IntKind.i64.wrap (g.travel + 1) = (N : Int) := by rw [hN]; exact IntWalk.i64_in _ (by omega)
  have v2 : IntKind.i64.wrap ((g.ss.length : Int) - g.wrong) = (g.ss.length : Int) - g.wrong := IntWalk.i64_in _ (by omega)
  have R0 := hid h0
  have c2 := range_cell h0 (show (gtL g p)[2]? = some (.int .i64 g.travel) from rfl)
  clear hg hJ hY hss hra hrl htr hsl hN h0 hwr
  refine callsIn_of_wp Tryz.func80 rfl trivial ?_ rfl
  simp only [Tryz.ntmps80, List.size_toArray, List.length_cons, List.length_nil, Nat.reduceAdd, Nat.reduceSub, Array.replicate_succ, Array.replicate_zero, List.push_toArray, List.append_toArray, List.nil_append, List.cons_append]
  gi_wp2
  clear c2
  gi_loopw [4, 5, 6, 7, 11] (fun a4 a5 a6 a7 i wr => ∃ k : Nat, k ≤ N ∧ i = .int .i64 k ∧ Hid (J (posL g rs k) wr) ∧ KeepF n₀ W wr) (fun _ _ _ _ i _ => N - (intOf i).toNat)
  case atStart => exact ⟨0, Nat.zero_le _, rfl, hid hj0, KeepF.refl _ _⟩
  case round =>
    obtain ⟨k, hk, rfl, hjk, hbw⟩ := hrel
    have hsw := hbw.low.size
    have c19 := range_cell (hbw.range (by omega) (by omega) R0.out) (show (gtL g p)[19]? = some (.slice sa g.ss.length p.sc) by rw [← HSa.out]; rfl)
    by_cases hlt : k < N
    · gi_wp2
      clear c19
      gi_loopw [5, 6, 7, 17] (fun a5 a6 a7 i wr2 => ∃ j : Nat, j ≤ g.ss.length ∧ i = .int .i64 j ∧ a5 = .int .i64 (cntAg g.ss rs k j) ∧ Hid (J (posL g rs k) wr2) ∧ KeepF n₀ W wr2) (fun _ _ _ i _ => g.ss.length - (intOf i).toNat)
      case atStart => exact ⟨0, Nat.zero_le _, rfl, rfl, hjk, hbw⟩
      case round =>
        obtain ⟨WR, hWR⟩ : ∃ X, X = wr := ⟨_, rfl⟩
        subst hWR
        obtain ⟨j, hj, rfl, rfl, hjk2, hbw2⟩ := hrel
        have hsw2 := hbw2.low.size
        by_cases hlj : j < g.ss.length
        · have hB2 := hwW.trans (hbw2.low.mono hw0)
          obtain ⟨b, o, rfl, hb, hat⟩ := HSs.out.later hB2 (Nat.le_refl _) |>.resolve_left (by intro e; rw [e] at hlj; simp at hlj)
          obtain ⟨rb, ro, rfl, hrb, hrat⟩ := HRa.out.later hB2 (Nat.le_refl _) |>.resolve_left (by intro e; have := HRl.out; rw [e] at this; simp at this; omega)
          have Rt := hat j hlj
          have hrj : j < rs.length := by rw [HRl.out]; exact hlj
          have r0 := hrat j hrj
          have hSg := senGood (HG.out.ss g.ss[j] (List.getElem_mem hlj))
          have HCs := hid (fun (y : Bool) (hy : agB g.ss[j] rs[j] (k : Int) = y) => cntAg_succ g.ss rs (k : Int) (k := j) (s := g.ss[j]) (r := rs[j]) (y := y) (by simp [List.getD, hlj]) (by simp [List.getD, hrj]) hy)
          generalize g.ss[j] = s at *
          generalize rs[j] = r at *
          have t0 : WR.cell? ⟨b, o + j * 3, none⟩ = some (.int .i64 s.kind) := by simpa using Rt 0 _ (show (senL s)[0]? = some (.int .i64 s.kind) from rfl)
          have t1 : WR.cell? ⟨b, o + j * 3 + 1, none⟩ = some (.int .i64 s.at_) := Rt 1 _ rfl
          have t2 : WR.cell? ⟨b, o + j * 3 + 2, none⟩ = some (.int .i64 s.tol) := Rt 2 _ rfl
          have cr := (hbw2.cell (i := n₀ + 2) (by omega) (by omega) 0).trans h1
          have hjI : (j : Int) < (g.ss.length : Int) := by omega
          have hjI2 : (j : Int) < (rs.length : Int) := by omega
          have hj0' : (0 : Int) ≤ (j : Int) := Int.natCast_nonneg _
          have hAg := hid (fun W => agrees_any s r k W hSg ⟨by omega, by have := HTr.out; have := HNn.out; omega⟩)
          obtain ⟨y, hy⟩ : ∃ y, agB s r (k : Int) = y := ⟨_, rfl⟩
          rw [hy] at hAg
          have hcs := HCs.out y hy
          have HC := hid hcs
          have hcl := cntAg_le g.ss rs (k : Int) j
          have HCl := hid hcl
          generalize cntAg g.ss rs (k : Int) j = c at *
          have v3 : IntKind.i64.wrap ((c : Int) + 1) = ((c + 1 : Nat) : Int) := by rw [IntWalk.i64_in _ (by have := HSl.out; omega)]; simp
          have v4 : IntKind.i64.wrap ((j : Int) + 1) = ((j + 1 : Nat) : Int) := by rw [IntWalk.i64_in _ (by have := HSl.out; omega)]; simp
          clear hat hrat Rt hSg HCs hy hcs hcl hjk
          gi_wp2
          have lb' : b < WR.heap.size := hb
          generalize hV : World.alloc WR _ = V
          have bV : Below WR.heap.size WR V := by rw [← hV]; exact (Below.refl _ _).alloc (Nat.le_refl _) _
          have x0 : V.cell? ⟨WR.heap.size, 0, none⟩ = some (.int .i64 s.kind) := by rw [← hV]; simp [go_sem]
          have x1 : V.cell? ⟨WR.heap.size, 1, none⟩ = some (.int .i64 s.at_) := by rw [← hV]; simp [go_sem]
          have x2 : V.cell? ⟨WR.heap.size, 2, none⟩ = some (.int .i64 s.tol) := by rw [← hV]; simp [go_sem]
          have cr' := (bV.cell (p := ⟨n₀ + 2, 0, none⟩) (by show n₀ + 2 < WR.heap.size; omega)).trans cr
          have r0' := (bV.cell (p := ⟨rb, ro + j, none⟩) hrb).trans r0
          have y0 := fun d os => cell_regrown x0 d os
          have y1 := fun d os => cell_regrown x1 d os
          have y2 := fun d os => cell_regrown x2 d os
          have y3 := fun d os => cell_regrown cr' d os
          have y4 := fun d os => cell_regrown r0' d os
          clear hV t0 t1 t2 cr r0 x0 x1 x2 cr' r0'
          refine wpIn_region_quiet_below rfl (by kernel_rfl) (by kernel_rfl) ?_
          repeat (quiet_step_in (fail))
          refine wpQuietIn_step (by go_simp; intros; trivial) (fun K hK => ?_)
          go_simp
          apply Exists.intro
          refine ⟨fun _ => ?_, hK _ ?_⟩
          · first | exact CallsIn.regrown_of (callsIn_wide.2 (hAg.out _)) | exact ⟨trivial, CallsIn.regrown_of (callsIn_wide.2 (hAg.out _))⟩
          clear hK K
          refine wpQuietIn_nil ?_
          intro _ hw'
          obtain ⟨⟨dq, osq⟩, hw''⟩ := hw'
          subst hw''
          have bX : Below WR.heap.size WR (grow (redrawn V dq) osq) := bV.trans ((below_regrown V dq osq).mono bV.size)
          have hJ2 := hid (HJ.out _ _ _ hjk2.out bX)
          have hK2 := hbw2.trans (KeepF.of_below bX (by omega))
          clear y0 y1 y2 y3 y4 bX bV
          generalize grow (redrawn V dq) osq = X at *
          cases y
          · gi_wp2
            refine ⟨⟨j + 1, by omega, by go_num, by rw [HC.out]; rfl, hJ2, hK2⟩, by simp [intOf]; omega⟩
          · gi_wp2
            refine ⟨⟨j + 1, by omega, by go_num, by rw [HC.out]; rfl, hJ2, hK2⟩, by simp [intOf]; omega⟩
        · obtain rfl : j = g.ss.length := by omega
          have R2 := hbw2.range (i := n₀ + 1) (by omega) (by omega) R0.out
          have c19 := range_cell R2 (show (gtL g p)[19]? = some (.slice sa g.ss.length p.sc) by rw [← HSa.out]; rfl)
          have c20 := range_cell R2 (show (gtL g p)[20]? = some (.int .i64 g.wrong) from rfl)
          have v5 : IntKind.i64.wrap ((k : Int) + 1) = ((k + 1 : Nat) : Int) := by rw [IntWalk.i64_in _ (by have := HTr.out; have := HNn.out; omega)]; simp
          have HPs := hid (show posL g rs (k + 1) = posL g rs k ++ (if enB g rs k = true then [(k : Int)] else []) from rfl)
          have HEn := hid (show enB g rs k = decide ((g.ss.length : Int) - g.wrong ≤ (cntAg g.ss rs k g.ss.length : Int)) from rfl)
          generalize cntAg g.ss rs (k : Int) g.ss.length = c at *
          clear R2 hjk
          by_cases hen : (g.ss.length : Int) - g.wrong ≤ (c : Int)
          · have d1 : decide ((g.ss.length : Int) - g.wrong ≤ (c : Int)) = true := by simp [hen]
            have hps := HPs.out
            rw [if_pos (HEn.out.trans d1)] at hps
            have HP := hid hps
            obtain ⟨fn, tmps, assign, body, hy, hR⟩ := HYd.out _ (k : Int) _ hjk2.out (by have := posL_len g rs k; omega)
            simp only [encPos] at hy
            clear hen hps HPs HEn
            gi_wp2
            refine hR.mono ?_
            rintro e W3 (⟨rfl, hJ3, hk3⟩ | ⟨rfl, hJx3⟩)
            · gi_wp2
              refine ⟨⟨k + 1, by omega, by go_num, hid (by rw [HP.out]; exact hJ3), hbw2.trans hk3⟩, by simp [intOf]; omega⟩
            · gi_wp2
              refine bodyPost_ret (results_none rfl _ _ _) rfl ?_
              exact ⟨⟨_, rfl⟩, .inr ⟨_, trivial, hJx3⟩⟩
          · have d1 : decide ((g.ss.length : Int) - g.wrong ≤ (c : Int)) = false := by simp; omega
            have hps := HPs.out
            rw [if_neg (by rw [HEn.out, d1]; simp), List.append_nil] at hps
            have HP := hid hps
            clear hen hps HPs HEn
            gi_wp2
            refine ⟨fun _ h => (by cases h), ?_⟩
            gi_wp2
            refine ⟨⟨k + 1, by omega, by go_num, hid (by rw [HP.out]; exact hjk2.out), hbw2⟩, by simp [intOf]; omega⟩
    · obtain rfl : k = N := by omega
      gi_wp2
      go_end0
      exact ⟨⟨_, rfl⟩, .inl ⟨_, rfl, hjk.out⟩⟩
end Go.Proofs.YtdoklolinbmhpaaGreat

set_option linter.all false
namespace Go.Proofs.YtdoklolinbmhpaaGreat
open Go.RowKit Go.Shelf Go.Sort
attribute [local go_sem] Oper.semAt_some

theorem wpListIn_load_mid {n : Nat} {P : Program} {ops : Array Oper} {rest : List Oper} {op : Oper} {a : Act} {w : World} {Q : Exit → Act → World → Prop} (hgd : op.guard = none) (ty : TypeId) (x : Operand) (ho : op.op = .load ty x)
    (b o : Nat) (hx : a.eval x = .pointer (some ⟨b, o, none⟩)) (cs : List Value) (d : TypeDesc) (hc : w.rangeAt b o cs)
    (hu : P.underlying ty = some d) (hd : d.isRow = true) (hi : (P.info? ty).map (·.size) = some cs.length)
    (h : wpListIn Fence.wide n P ops Q rest (a.put op.dst (.agg cs.toArray)) w) : wpListIn Fence.wide n P ops Q (op :: rest) a w :=
  wpListIn_plain hgd fun K hK => by
    refine ⟨fun f hf => trivial, ?_⟩
    have e : (op.semAt Fence.wide.round a.eval).run P w = .ok (.value (.agg cs.toArray)) w := by
      show (op.semAt none a.eval).run P w = _
      simp only [Oper.semAt, execOp, ho, hx, Instr.loadAt, Instr.sureAddr, Sem.run_bind, Sem.run_pure, Result.andThen_ok, run_loadVar_mid w b o ty cs d hc hu hd hi]
    rw [e]
    exact hK _ _ h
/-- The list that agreed's function value hands on. -/
theorem ag_stops (n : Nat) (hn : 1 ≤ n) (n₀ mc N : Nat) (g : Gt) (p : GtP) (ra : Option Addr) (rs : List Int) (hg : GtGood g) (hN : (N : Int) = g.travel + 1) (hrl : rs.length = g.ss.length) (w : World)
    (h0 : w.rangeAt (n₀ + 1) 0 (gtL g p)) (h1 : w.cell? ⟨n₀ + 2, 0, none⟩ = some (.slice ra rs.length mc)) (hn₀ : n₀ + 3 ≤ w.heap.size)
    (w0 : World) (hw0 : w0.heap.size ≤ n₀) (hwW : Below w0.heap.size w0 w) (hss : SensAt w0 p.sa g.ss) (hra : IntsAt w0 ra rs) :
    SeqStopsK Fence.wide n Tryz.prog 80 #[.pointer (some ⟨n₀ + 1, 0, none⟩), .pointer (some ⟨n₀ + 2, 0, none⟩)] encPos (KeepF n₀) (fun ys => ys = posL g rs N) (fun _ => True) N w := fun l J Jx W hW hJ _ hY hj0 =>
  ag1_in n hn l n₀ mc N g p ra rs hg hN hrl J Jx (fun s W1 W2 hs hb => hJ s W1 W2 none hs (grown_of_below (row := none) (hb.mono (Nat.le_refl _))) (fun r e => by cases e)) hY W
    (range_later h0 hW (by omega)) ((hW.cell (p := ⟨n₀ + 2, 0, none⟩) (by show n₀ + 2 < _; omega)).trans h1) (Nat.le_trans hn₀ hW.size)
    w0 hw0 (hwW.trans (hW.mono (by omega))) hss hra hj0
theorem heap_set0 {W : World} {b : Nat} {c d v : Value} {T : TypeId} (h : W.heap[b]? = some (.cells #[c, d] T (0, 0))) : (W.setCell ⟨b, 0, none⟩ v).heap[b]? = some (.cells #[v, d] T (0, 0)) := by
  simp [World.setCell, Array.getElem?_modify, h]
theorem heap_set1 {W : World} {b : Nat} {c d v : Value} {T : TypeId} (h : W.heap[b]? = some (.cells #[c, d] T (0, 0))) : (W.setCell ⟨b, 1, none⟩ v).heap[b]? = some (.cells #[c, v] T (0, 0)) := by
  simp [World.setCell, Array.getElem?_modify, h]
theorem KeepF.set (n₀ o : Nat) (W : World) (v : Value) : KeepF n₀ W (W.setCell ⟨n₀, o, none⟩ v) := ⟨(Below.refl n₀ W).setCell (p := ⟨n₀, o, none⟩) (Nat.le_refl _) v, fun i h1 _ => Below.heap_setCell _ _ _ _ (by show i ≠ n₀; omega)⟩
theorem bcells_own {β : Type} (B : Nat) (t : TypeId) (f : β → Array Value) : Own (fun s W => W.heap[B]? = some (.cells (f s) t (0, 0))) := fun s X Y row hs hg hrow => by
  refine (hg.block B (Array.getElem?_eq_some_iff.1 hs).1 (fun e => ?_)).trans hs
  obtain ⟨o, ho, hc⟩ := hrow B e.symm
  rw [hs] at ho; cases ho; simp [Obj.isCells] at hc
set_option maxRecDepth 100000 in
set_option maxHeartbeats 8000000 in
theorem where_any (g : Gt) (p : GtP) (ra : Option Addr) (rs : List Int) (mc m : Nat) (w : World) (hm : rs.length = m) (hm8 : m ≤ 140737488355328) (hok : GtOk w p g) (hra : IntsAt w ra rs) :
    Calls Tryz.prog 16 #[.agg (gtL g p).toArray, .slice ra m mc] w fun e w' => e = .returned (.tuple #[.agg #[.int .i64 (whereP g rs).1.1, .int .i64 (whereP g rs).1.2], .int .i64 (whereP g rs).2]) ∧ Below w.heap.size w w' := by
  subst hm
  have HE := hid (show whereP g rs = if gtE g ≠ 0 then ((0, 0), gtE g) else if rs.length ≠ g.ss.length then ((0, 0), 2) else if (lohi (posL g rs (g.travel + 1).toNat)).1 = -1 then ((0, 0), 9) else (lohi (posL g rs (g.travel + 1).toNat), 0) from rfl)
  have HGd := hid (fun h => gtGood (g := g) h)
  have HOk := hid hok; have HRa := hid hra
  have hB0 : Below (w.alloc (.cells (gtL g p).toArray 25)).heap.size (w.alloc (.cells (gtL g p).toArray 25)) ((w.alloc (.cells (gtL g p).toArray 25)).alloc (.cells #[.int .i64 0, .int .i64 0] 50)) := (Below.refl _ _).alloc (Nat.le_refl _) _
  have R1 := range_later (range_alloc w (gtL g p) 25) hB0 (by simp)
  have HGe := hid (gateError_any g p ((w.alloc (.cells (gtL g p).toArray 25)).alloc (.cells #[.int .i64 0, .int .i64 0] 50)) (hok.later (((Below.refl w.heap.size w).alloc (Nat.le_refl _) _).alloc (by simp) _) (Nat.le_refl _)))
  have HB := hid (show Below w.heap.size w ((w.alloc (.cells (gtL g p).toArray 25)).alloc (.cells #[.int .i64 0, .int .i64 0] 50)) from ((Below.refl w.heap.size w).alloc (Nat.le_refl _) _).alloc (by simp) _)
  clear hok hB0 hra
  refine (callsIn_wide (n := 8)).1 ?_
  refine callsIn_of_wp_marks Tryz.func16 rfl trivial ?_ rfl
  simp only [Tryz.ntmps16, List.size_toArray, List.length_cons, List.length_nil, Nat.reduceAdd, Nat.reduceSub, Array.replicate_succ, Array.replicate_zero, List.push_toArray, List.append_toArray, List.nil_append, List.cons_append]
  gi_wp2_with (refine wpListIn_load_mid rfl 25 _ rfl _ 0 rfl (gtL g p) _ (R1) Tryz.underlying25 rfl (by kernel_rfl) ?_)
  refine ⟨trivial, ?_⟩
  refine (callsIn_wide.2 HGe.out).mono ?_
  rintro e w1 ⟨rfl, hb⟩
  have RR := range_later R1 hb (by simp <;> omega)
  have c19 := range_cell RR (show (gtL g p)[19]? = some (.slice p.sa g.ss.length p.sc) from rfl)
  have y0 : w1.cell? ⟨w.heap.size + 1, 0, none⟩ = some (.int .i64 0) := (hb.cell (p := ⟨w.heap.size + 1, 0, none⟩) (by simp)).trans (by simp [go_sem])
  have y1 : w1.cell? ⟨w.heap.size + 1, 1, none⟩ = some (.int .i64 0) := (hb.cell (p := ⟨w.heap.size + 1, 1, none⟩) (by simp)).trans (by simp [go_sem])
  have f0 : ∀ o, w1.frozen? ⟨w.heap.size + 1, o, none⟩ = false := fun o => (hb.frozen (p := ⟨w.heap.size + 1, o, none⟩) (by simp)).trans (by simp [go_sem])
  have hfin := HB.out.trans (hb.mono HB.out.size)
  have l1 : w.heap.size + 1 < w1.heap.size := by have := hb.size; simp at this; omega
  have l0 : w.heap.size < w1.heap.size := by omega
  have HRR := hid RR
  clear R1 HGe hb HB RR
  generalize gtE g = x0 at *
  by_cases hx : x0 = 0
  · have q : (x0 != 0) = false := by simp [hx]
    have HX := hid hx
    have HG := hid (HGd.out hx)
    clear hx HGd
    by_cases hl : rs.length = g.ss.length
    · have q2 : ((rs.length : Int) != (g.ss.length : Int)) = false := by simp [hl]
      have HLn := hid hl
      clear hl
      gi_wp2_with (refine wpListIn_load_mid rfl 25 _ rfl _ 0 rfl (gtL g p) _ (range_later HRR.out ((Below.refl _ _).alloc (Nat.le_refl _) _) (by omega)) Tryz.underlying25 rfl (by kernel_rfl) ?_)
      refine ⟨trivial, ?_⟩
      refine (callsIn_wide.2 (agreed_any g p ra rs.length mc _)).mono ?_
      rintro e w' ⟨rfl, rfl⟩
      gi_wp2
      obtain ⟨N, hN⟩ : ∃ N : Nat, (g.travel + 1).toNat = N := ⟨_, rfl⟩
      have hNI : (N : Int) = g.travel + 1 := by rw [← hN]; exact Int.toNat_of_nonneg (by have := HG.out.travel; omega)
      have hB1 : Below w1.heap.size w1 (((w1.alloc (.cells #[.int .i64 (-1), .int .i64 (-1)] 50)).alloc (.cells (gtL g p).toArray 25)).alloc (.cells #[.slice ra rs.length mc] 22)) := (((Below.refl _ _).alloc (Nat.le_refl _) _).alloc (by simp) _).alloc (by simp; omega) _
      obtain ⟨W0, hW0⟩ : ∃ W0, ((w1.alloc (.cells #[.int .i64 (-1), .int .i64 (-1)] 50)).alloc (.cells (gtL g p).toArray 25)).alloc (.cells #[.slice ra rs.length mc] 22) = W0 := ⟨_, rfl⟩
      have hsz : W0.heap.size = w1.heap.size + 3 := by rw [← hW0]; simp
      have k0 : W0.heap[w1.heap.size]? = some (.cells #[.int .i64 (-1), .int .i64 (-1)] 50 (0, 0)) := by
        rw [← hW0, Below.heap_alloc _ _ _ (by simp; omega), Below.heap_alloc _ _ _ (by simp)]
        exact World.alloc_heap_new w1 _
      have k2 : W0.cell? ⟨w1.heap.size + 2, 0, none⟩ = some (.slice ra rs.length mc) := by rw [← hW0]; simp [go_sem]
      have k1 : W0.rangeAt (w1.heap.size + 1) 0 (gtL g p) := by
        rw [← hW0]
        have h := range_alloc (w1.alloc (.cells #[.int .i64 (-1), .int .i64 (-1)] 50)) (gtL g p) 25
        have hs : (w1.alloc (.cells #[.int .i64 (-1), .int .i64 (-1)] 50)).heap.size = w1.heap.size + 1 := by simp
        rw [hs] at h
        exact range_later h ((Below.refl _ _).alloc (Nat.le_refl _) _) (by simp)
      rw [hW0] at hB1 ⊢
      have hBW := hid (bthenY hfin hB1)
      have HR := hid (HE.out.trans ((if_neg (by simp [HX.out])).trans (if_neg (by simp [HLn.out]))))
      rw [hN] at HR
      have HLp := hid (lohi_pos g rs N)
      clear hW0 hN
      refine wpIn_rangeFunc_ownH rfl (by omega) (gf := 80) (lb := #[.pointer (some ⟨w1.heap.size + 1, 0, none⟩), .pointer (some ⟨w1.heap.size + 1 + 1, 0, none⟩)]) rfl trivial (enters_of Tryz.func80 (by kernel_rfl) rfl)
        (ag_stops (8 - 1) (by omega) w1.heap.size mc N g p ra rs HG.out hNI HLn.out W0 k1 k2 (by omega) w (by omega) hBW.out HOk.out.ss HRa.out) KeepF.trans (KeepF.put (by omega)) (Below.refl _ _) (fun _ => rfl)
        (fun pre W => W.heap[w1.heap.size]? = some (.cells #[.int .i64 (lohi pre).1, .int .i64 (lohi pre).2] 50 (0, 0)) ∧ Below w1.heap.size W0 W)
        (fun _ _ _ => False)
        (OwnFrom.and (Own.from (bcells_own w1.heap.size 50 (fun pre : List Int => #[.int .i64 (lohi pre).1, .int .i64 (lohi pre).2])) _) (ownFrom_below (by omega) (by omega)))
        (fun _ _ _ _ _ hs _ _ => hs)
        ⟨k0, Below.refl _ _⟩
        (fun x a' W => a' = { tmps := #[.agg (gtL g p).toArray, .slice ra rs.length mc, .pointer (some ⟨w.heap.size, 0, none⟩), undef, .pointer (some ⟨w.heap.size + 1, 0, none⟩), .int .i64 0, .int .i64 x0, .pointer (some ⟨w1.heap.size, 0, none⟩), .int .i64 x, .agg (gtL g p).toArray, .int .i64 x0, .int .i64 x0, .bool false, undef, undef, .slice ra rs.length mc, .int .i64 rs.length, .pointer (some ⟨w.heap.size, 19, none⟩), .slice p.sa g.ss.length p.sc, .int .i64 g.ss.length, .bool false, undef, .agg #[.int .i64 (-1), .int .i64 (-1)], .agg (gtL g p).toArray, .slice ra rs.length mc, .func (.func 80) #[] #[.pointer (some ⟨w1.heap.size + 1, 0, none⟩), .pointer (some ⟨w1.heap.size + 1 + 1, 0, none⟩)], .int .i64 x, undef, undef, undef, undef, undef, undef, undef, undef, undef, undef, undef, undef], defers := [] })
        (fun x a' _ X Y row hs hg hr => hs)
        ?assign ?body ?done ?stop
      case assign =>
        rintro l pre x W K ⟨hv, hB⟩ hK
        simp only [encPos]
        gi_wp2
        exact hK _ _ (KeepsFrom.refl _ _) (KeepF.refl _ _) ⟨hv, hB⟩ rfl
      case body =>
        rintro l pre x a' W hl ⟨r, hr⟩ ⟨hv, hB⟩ rfl hlt
        have hs := hB.size
        have e0 : W.cell? ⟨w1.heap.size, 0, none⟩ = some (.int .i64 (lohi pre).1) := by simp [World.cell?, hv]
        have e1 : W.cell? ⟨w1.heap.size, 1, none⟩ = some (.int .i64 (lohi pre).2) := by simp [World.cell?, hv]
        have ef : ∀ o, W.frozen? ⟨w1.heap.size, o, none⟩ = false := by intro o; simp [World.frozen?, hv]
        have hsn := lohi_snoc pre x
        generalize lohi pre = q0 at *
        obtain ⟨lo, hi⟩ := q0
        dsimp only at e0 e1 hv
        by_cases hlo : lo = -1
        · have q3 : (lo == -1) = true := by simp [hlo]
          have hL := hid (show lohi (pre ++ [x]) = (x, x) by rw [hsn]; simp [lohiF, hlo])
          clear hsn hlo
          gi_wp2
          exact ⟨((KeepsOthers.setCell _ _ _).trans (KeepsOthers.setCell _ _ _)).from _, (KeepF.set _ _ _ _).trans (KeepF.set _ _ _ _), by rw [hL.out]; exact heap_set1 (heap_set0 hv), (hB.setCell (Nat.le_refl _) _).setCell (Nat.le_refl _) _⟩
        · have q3 : (lo == -1) = false := by simp [hlo]
          have hL := hid (show lohi (pre ++ [x]) = (lo, x) by rw [hsn]; simp [lohiF, hlo])
          clear hsn hlo
          gi_wp2
          exact ⟨(KeepsOthers.setCell _ _ _).from _, KeepF.set _ _ _ _, by rw [hL.out]; exact heap_set1 hv, hB.setCell (Nat.le_refl _) _⟩
      case done =>
        rintro D ys W hD rfl ⟨hv, hB⟩ hK
        have hs := hB.size
        have e0 : W.cell? ⟨w1.heap.size, 0, none⟩ = some (.int .i64 (lohi (posL g rs N)).1) := by simp [World.cell?, hv]
        have e1 : W.cell? ⟨w1.heap.size, 1, none⟩ = some (.int .i64 (lohi (posL g rs N)).2) := by simp [World.cell?, hv]
        have hBB := hB1.mono (by omega : w1.heap.size ≤ w1.heap.size) |>.trans hB
        have z0 := (hBB.cell (p := ⟨w.heap.size + 1, 0, none⟩) l1).trans y0
        have z1 := (hBB.cell (p := ⟨w.heap.size + 1, 1, none⟩) l1).trans y1
        have zf := fun o => (hBB.frozen (p := ⟨w.heap.size + 1, o, none⟩) l1).trans (f0 o)
        have hfW := bthenY hfin hBB
        have HD := hid hD; have HK := hid hK
        clear y0 y1 f0 k0 k1 k2 hv hD
        generalize lohi (posL g rs N) = q0 at *
        obtain ⟨lo, hi⟩ := q0
        dsimp only at e0 e1 HR HLp
        by_cases hlo : lo = -1
        · have q3 : (lo == -1) = true := by simp [hlo]
          have hr := HR.out
          rw [if_pos hlo] at hr
          have HRr := hid hr
          clear hlo hr HR HLp
          gi_wp2
          have hne : D ≠ w.heap.size + 1 := by have := HD.out; omega
          have hKV : ((W.setCell ⟨w.heap.size + 1, 0, none⟩ (.int .i64 0)).setCell ⟨w.heap.size + 1, 1, none⟩ (.int .i64 0)).heap[D]? = some (.deferred (some [])) := (Below.heap_setCell _ _ _ _ (by exact hne)).trans ((Below.heap_setCell _ _ _ _ (by exact hne)).trans HK.out)
          have r0 : ((W.setCell ⟨w.heap.size + 1, 0, none⟩ (.int .i64 0)).setCell ⟨w.heap.size + 1, 1, none⟩ (.int .i64 0)).cell? ⟨w.heap.size + 1, 0, none⟩ = some (.int .i64 0) := (cs_o (.inr (by omega))).trans (cs_s ⟨_, z0⟩)
          have r1 : ((W.setCell ⟨w.heap.size + 1, 0, none⟩ (.int .i64 0)).setCell ⟨w.heap.size + 1, 1, none⟩ (.int .i64 0)).cell? ⟨w.heap.size + 1, 1, none⟩ = some (.int .i64 0) := cs_s (cell_ex ⟨_, z1⟩)
          have hVs : ((W.setCell ⟨w.heap.size + 1, 0, none⟩ (.int .i64 0)).setCell ⟨w.heap.size + 1, 1, none⟩ (.int .i64 0)).heap.size = W.heap.size := by simp
          have hVB := (hfW.setCell (p := ⟨w.heap.size + 1, 0, none⟩) (by show w.heap.size ≤ w.heap.size + 1; omega) (.int .i64 0)).setCell (p := ⟨w.heap.size + 1, 1, none⟩) (by show w.heap.size ≤ w.heap.size + 1; omega) (.int .i64 0)
          generalize World.setCell (World.setCell _ _ _) _ _ = V at *
          have hbP := belowK_b (n₀ := W0.heap.size) (w := W0) (Nat.le_refl _) V D (.deferred (some [])) (.deferred none) HD.out hKV rfl rfl
          have p0 := (hbP.cell (p := ⟨w.heap.size + 1, 0, none⟩) (by show w.heap.size + 1 < W0.heap.size; omega)).trans r0
          have p1 := (hbP.cell (p := ⟨w.heap.size + 1, 1, none⟩) (by show w.heap.size + 1 < W0.heap.size; omega)).trans r1
          have hPB := hVB.trans (hbP.mono (by omega))
          clear HD hne r0 r1 z0 z1 e0 e1 zf
          refine ⟨by simp, .inl ⟨_, _, rfl, run_takeDeferred hKV, ?_⟩⟩
          refine ⟨.tuple #[.agg #[.int .i64 0, .int .i64 0], .int .i64 9], by simp [results, Tryz.results16, go_sem, p0, p1], ?_⟩
          exact ⟨by rw [HRr.out], hPB⟩
        · have q3 : (lo == -1) = false := by simp [hlo]
          have hr := HR.out
          rw [if_neg hlo] at hr
          have HRr := hid hr
          clear hlo hr HR HLp
          gi_wp2
          have hne : D ≠ w.heap.size + 1 := by have := HD.out; omega
          have hKV : ((W.setCell ⟨w.heap.size + 1, 0, none⟩ (.int .i64 lo)).setCell ⟨w.heap.size + 1, 1, none⟩ (.int .i64 hi)).heap[D]? = some (.deferred (some [])) := (Below.heap_setCell _ _ _ _ (by exact hne)).trans ((Below.heap_setCell _ _ _ _ (by exact hne)).trans HK.out)
          have r0 : ((W.setCell ⟨w.heap.size + 1, 0, none⟩ (.int .i64 lo)).setCell ⟨w.heap.size + 1, 1, none⟩ (.int .i64 hi)).cell? ⟨w.heap.size + 1, 0, none⟩ = some (.int .i64 lo) := (cs_o (.inr (by omega))).trans (cs_s ⟨_, z0⟩)
          have r1 : ((W.setCell ⟨w.heap.size + 1, 0, none⟩ (.int .i64 lo)).setCell ⟨w.heap.size + 1, 1, none⟩ (.int .i64 hi)).cell? ⟨w.heap.size + 1, 1, none⟩ = some (.int .i64 hi) := cs_s (cell_ex ⟨_, z1⟩)
          have hVs : ((W.setCell ⟨w.heap.size + 1, 0, none⟩ (.int .i64 lo)).setCell ⟨w.heap.size + 1, 1, none⟩ (.int .i64 hi)).heap.size = W.heap.size := by simp
          have hVB := (hfW.setCell (p := ⟨w.heap.size + 1, 0, none⟩) (by show w.heap.size ≤ w.heap.size + 1; omega) (.int .i64 lo)).setCell (p := ⟨w.heap.size + 1, 1, none⟩) (by show w.heap.size ≤ w.heap.size + 1; omega) (.int .i64 hi)
          generalize World.setCell (World.setCell _ _ _) _ _ = V at *
          have hbP := belowK_b (n₀ := W0.heap.size) (w := W0) (Nat.le_refl _) V D (.deferred (some [])) (.deferred none) HD.out hKV rfl rfl
          have p0 := (hbP.cell (p := ⟨w.heap.size + 1, 0, none⟩) (by show w.heap.size + 1 < W0.heap.size; omega)).trans r0
          have p1 := (hbP.cell (p := ⟨w.heap.size + 1, 1, none⟩) (by show w.heap.size + 1 < W0.heap.size; omega)).trans r1
          have hPB := hVB.trans (hbP.mono (by omega))
          clear HD hne r0 r1 z0 z1 e0 e1 zf
          refine ⟨by simp, .inl ⟨_, _, rfl, run_takeDeferred hKV, ?_⟩⟩
          refine ⟨.tuple #[.agg #[.int .i64 lo, .int .i64 hi], .int .i64 0], by simp [results, Tryz.results16, go_sem, p0, p1], ?_⟩
          exact ⟨by rw [HRr.out], hPB⟩
      case stop =>
        rintro D c pre W _ _ h _
        exact h.elim
    · have q2 : ((rs.length : Int) != (g.ss.length : Int)) = true := by simp; omega
      have HR := hid (HE.out.trans ((if_neg (by simp [HX.out])).trans (if_pos hl)))
      clear hl HRR
      gi_wp2
      have r0 := cs_o (x := w1.setCell ⟨w.heap.size + 1, 0, none⟩ (.int .i64 0)) (b := w.heap.size + 1) (c := w.heap.size + 1) (i := 0) (j := 1) (v := .int .i64 0) (.inr (by omega)) |>.trans (cs_s ⟨_, y0⟩)
      have r1 := cs_s (x := w1.setCell ⟨w.heap.size + 1, 0, none⟩ (.int .i64 0)) (p := ⟨w.heap.size + 1, 1, none⟩) (v := .int .i64 0) (cell_ex ⟨_, y1⟩)
      have hVB := (hfin.setCell (p := ⟨w.heap.size + 1, 0, none⟩) (by show w.heap.size ≤ w.heap.size + 1; omega) (.int .i64 0)).setCell (p := ⟨w.heap.size + 1, 1, none⟩) (by show w.heap.size ≤ w.heap.size + 1; omega) (.int .i64 0)
      generalize World.setCell (World.setCell _ _ _) _ _ = V at *
      exact ⟨.tuple #[.agg #[.int .i64 0, .int .i64 0], .int .i64 2], by simp [results, Tryz.results16, go_sem, r0, r1], ⟨by rw [HR.out], hVB⟩⟩
  · have q : (x0 != 0) = true := by simp [hx]
    have HR := hid (HE.out.trans (if_pos hx))
    clear hx HRR
    gi_wp2
    have r0 := cs_o (x := w1.setCell ⟨w.heap.size + 1, 0, none⟩ (.int .i64 0)) (b := w.heap.size + 1) (c := w.heap.size + 1) (i := 0) (j := 1) (v := .int .i64 0) (.inr (by omega)) |>.trans (cs_s ⟨_, y0⟩)
    have r1 := cs_s (x := w1.setCell ⟨w.heap.size + 1, 0, none⟩ (.int .i64 0)) (p := ⟨w.heap.size + 1, 1, none⟩) (v := .int .i64 0) (cell_ex ⟨_, y1⟩)
    have hVB := (hfin.setCell (p := ⟨w.heap.size + 1, 0, none⟩) (by show w.heap.size ≤ w.heap.size + 1; omega) (.int .i64 0)).setCell (p := ⟨w.heap.size + 1, 1, none⟩) (by show w.heap.size ≤ w.heap.size + 1; omega) (.int .i64 0)
    generalize World.setCell (World.setCell _ _ _) _ _ = V at *
    exact ⟨.tuple #[.agg #[.int .i64 0, .int .i64 0], .int .i64 x0], by simp [results, Tryz.results16, go_sem, r0, r1], ⟨by rw [HR.out], hVB⟩⟩
end Go.Proofs.YtdoklolinbmhpaaGreat

set_option linter.all false
namespace Go.Proofs.YtdoklolinbmhpaaGreat
open Go.RowKit

def sureP (g : Gt) (rs : List Int) : Int × Int := if (whereP g rs).2 ≠ 0 then (0, (whereP g rs).2) else if (whereP g rs).1.2 ≤ g.slack then (1, 0) else if g.travel - g.slack ≤ (whereP g rs).1.1 then (2, 0) else (0, 0)
def boltE (g : Gt) (s : St) (on : Bool) (rs : List Int) : Int := if on = false ∧ s.bolted = false then 4 else if on = false then 0 else if s.bolted = true then 5 else if (sureP g rs).2 = 0 ∧ (sureP g rs).1 = 0 then 9 else (sureP g rs).2
def boltEE (g : Gt) (s : St) (on : Bool) (rs : List Int) : Int := (firstAt 0 [(0, gtE g), (0, stE g s), (0, boltE g s on rs)]).2.2
/-- What Bolt returns. -/
def boltP (g : Gt) (s : St) (on : Bool) (rs : List Int) : St × Int := if boltEE g s on rs ≠ 0 then (⟨0, 0, false⟩, boltEE g s on rs) else (⟨s.pos, s.charge, on⟩, 0)
theorem where_good {g : Gt} {rs : List Int} (h : (whereP g rs).2 = 0) : gtE g = 0 := by
  unfold whereP at h
  by_cases h0 : gtE g = 0
  · exact h0
  · rw [if_pos h0] at h; exact h
set_option maxRecDepth 100000 in
set_option maxHeartbeats 2000000 in
theorem sure_any (g : Gt) (p : GtP) (ra : Option Addr) (rs : List Int) (mc m : Nat) (w : World) (hm : rs.length = m) (hm8 : m ≤ 140737488355328) (hok : GtOk w p g) (hra : IntsAt w ra rs) :
    Calls Tryz.prog 18 #[.agg (gtL g p).toArray, .slice ra m mc] w fun e w' => e = .returned (.tuple #[.int .i64 (sureP g rs).1, .int .i64 (sureP g rs).2]) ∧ Below w.heap.size w w' := by
  have HE := hid (show sureP g rs = if (whereP g rs).2 ≠ 0 then (0, (whereP g rs).2) else if (whereP g rs).1.2 ≤ g.slack then (1, 0) else if g.travel - g.slack ≤ (whereP g rs).1.1 then (2, 0) else (0, 0) from rfl)
  have hA : Below w.heap.size w (w.alloc (.cells (gtL g p).toArray 25)) := (Below.refl _ _).alloc (Nat.le_refl _) _
  have R1 := range_alloc w (gtL g p) 25
  have S1 : w.heap.size < (w.alloc (.cells (gtL g p).toArray 25)).heap.size := by simp
  have HW := hid (where_any g p ra rs mc m _ hm hm8 (hok.later hA (Nat.le_refl _)) (hra.later hA (Nat.le_refl _)))
  have HGd := hid (fun h => gtGood (where_good (g := g) (rs := rs) h))
  clear hok hra hm hm8
  generalize sureP g rs = y at *
  generalize whereP g rs = q at *
  obtain ⟨⟨lo, hi⟩, e⟩ := q
  dsimp only at HE HW HGd
  go_enter Tryz.func18, Tryz.ntmps18
  go_wp2_with (refine wpList_load_mid rfl 25 _ rfl _ 0 rfl (gtL g p) _ (R1) Tryz.underlying25 rfl (by kernel_rfl) ?_)
  refine (HW.out).mono ?_
  rintro e' w1 ⟨rfl, hb⟩
  have R2 := range_later R1 hb S1
  have B2 := bthenY hA hb
  have k2 := range_cell R2 (show (gtL g p)[2]? = some (.int .i64 g.travel) from rfl)
  have k18 := range_cell R2 (show (gtL g p)[18]? = some (.int .i64 g.slack) from rfl)
  have l1 := Nat.lt_of_lt_of_le S1 hb.size
  clear R1 hA S1 hb HW R2
  by_cases he : e = 0
  · have q1 : (e != 0) = false := by simp [he]
    have hg := HGd.out he
    have b1 := hg.travel; have b2 := hg.slack
    have v1 : IntKind.i64.wrap (g.travel - g.slack) = g.travel - g.slack := IntWalk.i64_in _ (by have := Int.tdiv_le_self (a := g.travel - 1) 2 (by omega); omega)
    by_cases h1 : hi ≤ g.slack
    · have d1 : decide (hi ≤ g.slack) = true := by simp [h1]
      have HR := hid (HE.out.trans ((if_neg (by simp [he])).trans (if_pos h1)))
      clear he h1 b1 b2 hg HE HGd
      go_wp2_with fail
      go_ret2
      exact ⟨ret_two (by rw [HR.out]) (by rw [HR.out]), B2.alloc (by omega) _⟩
    · have d1 : decide (hi ≤ g.slack) = false := by simp; omega
      by_cases h2 : g.travel - g.slack ≤ lo
      · have d2 : decide (g.travel - g.slack ≤ lo) = true := by simp [h2]
        have HR := hid (HE.out.trans ((if_neg (by simp [he])).trans ((if_neg h1).trans (if_pos h2))))
        clear he h1 h2 b1 b2 hg HE HGd
        go_wp2_with fail
        go_ret2
        exact ⟨ret_two (by rw [HR.out]) (by rw [HR.out]), B2.alloc (by omega) _⟩
      · have d2 : decide (g.travel - g.slack ≤ lo) = false := by simp; omega
        have HR := hid (HE.out.trans ((if_neg (by simp [he])).trans ((if_neg h1).trans (if_neg h2))))
        clear he h1 h2 b1 b2 hg HE HGd
        go_wp2_with fail
        go_ret2
        exact ⟨ret_two (by rw [HR.out]) (by rw [HR.out]), B2.alloc (by omega) _⟩
  · have q1 : (e != 0) = true := by simp [he]
    have HR := hid (HE.out.trans (if_pos he))
    clear he HE HGd
    go_wp2_with fail
    go_ret2
    exact ⟨ret_two (by rw [HR.out]) (by rw [HR.out]), B2.alloc (by omega) _⟩
set_option maxRecDepth 100000 in
set_option maxHeartbeats 2000000 in
theorem boltError_any (g : Gt) (p : GtP) (s : St) (on : Bool) (ra : Option Addr) (rs : List Int) (mc m : Nat) (w : World) (hm : rs.length = m) (hm8 : m ≤ 140737488355328) (hok : GtOk w p g) (hra : IntsAt w ra rs) :
    Calls Tryz.prog 52 #[.agg (gtL g p).toArray, .agg #[.int .i64 s.pos, .int .i64 s.charge, .bool s.bolted], .bool on, .slice ra m mc] w fun e w' => e = .returned (.int .i64 (boltE g s on rs)) ∧ Below w.heap.size w w' := by
  have HE := hid (show boltE g s on rs = if on = false ∧ s.bolted = false then 4 else if on = false then 0 else if s.bolted = true then 5 else if (sureP g rs).2 = 0 ∧ (sureP g rs).1 = 0 then 9 else (sureP g rs).2 from rfl)
  have H0 := TmW.start w g p s
  have HSu := hid (fun W (hW : Below w.heap.size w W) => sure_any g p ra rs mc m W hm hm8 (hok.later hW (Nat.le_refl _)) (hra.later hW (Nat.le_refl _)))
  have R1 := H0.rows
  have s2 := range_cell H0.ss (show (stL s)[2]? = some (.bool s.bolted) from rfl)
  have HB := hid H0.below
  clear hok hra hm hm8 H0
  generalize boltE g s on rs = y at *
  generalize sureP g rs = q at *
  obtain ⟨q1, q2⟩ := q
  dsimp only at HE HSu
  go_enter Tryz.func52, Tryz.ntmps52
  go_upto_region 1 with fail
  generalize World.alloc (World.alloc w _) _ = W1 at *
  cases on
  · rcases hbo : s.bolted with _ | _
    · have HR := hid (HE.out.trans (if_pos ⟨rfl, hbo⟩))
      clear HE HSu
      go_wp2_with fail
      go_ret
      exact ⟨ret_iE (by rw [HR.out]), HB.out⟩
    · have HR := hid (HE.out.trans ((if_neg (by simp [hbo])).trans (if_pos rfl)))
      clear HE HSu
      go_wp2_with fail
      go_ret
      exact ⟨ret_iE (by rw [HR.out]), HB.out⟩
  · rcases hbo : s.bolted with _ | _
    · have HR0 := hid (HE.out.trans ((if_neg (by simp)).trans ((if_neg (by simp)).trans (if_neg (by simp [hbo])))))
      clear HE
      go_wp2_with (refine wpList_load_mid rfl 25 _ rfl _ 0 rfl (gtL g p) _ (R1) Tryz.underlying25 rfl (by kernel_rfl) ?_)
      refine (HSu.out _ HB.out).mono ?_
      rintro e w1 ⟨rfl, hb⟩
      have BF := bthenY HB.out hb
      clear hb HSu R1 s2
      by_cases h2 : q2 = 0
      · have d2 : (q2 == 0) = true := by simp [h2]
        by_cases h1 : q1 = 0
        · have d1 : (q1 == 0) = true := by simp [h1]
          have HR := hid (HR0.out.trans (if_pos ⟨h2, h1⟩))
          clear h1 h2 HR0
          go_wp2_with fail
          go_ret
          exact ⟨ret_iE (by rw [HR.out]), BF⟩
        · have d1 : (q1 == 0) = false := by simp [h1]
          have HR := hid (HR0.out.trans (if_neg (by simp [h1])))
          clear h1 h2 HR0
          go_wp2_with fail
          go_ret
          exact ⟨ret_iE (by rw [HR.out]), BF⟩
      · have d2 : (q2 == 0) = false := by simp [h2]
        have HR := hid (HR0.out.trans (if_neg (by simp [h2])))
        clear h2 HR0
        go_wp2_with fail
        go_ret
        exact ⟨ret_iE (by rw [HR.out]), BF⟩
    · have HR := hid (HE.out.trans ((if_neg (by simp)).trans ((if_neg (by simp)).trans (if_pos hbo))))
      clear HE HSu
      go_wp2_with fail
      go_ret
      exact ⟨ret_iE (by rw [HR.out]), HB.out⟩

theorem callFunc_bolt1 (args : Array Value) (w : World) : (callFunc 49 args).run Tryz.prog w = .ok (.enter 49 args) w := by simp [go_sem]
theorem callFunc_bolt2 (args : Array Value) (w : World) : (callFunc 50 args).run Tryz.prog w = .ok (.enter 50 args) w := by simp [go_sem]
theorem callFunc_bolt3 (args : Array Value) (w : World) : (callFunc 51 args).run Tryz.prog w = .ok (.enter 51 args) w := by simp [go_sem]
set_option maxRecDepth 100000 in
set_option maxHeartbeats 1000000 in
theorem bolt1_any (tb : Nat) (g : Gt) (p : GtP) (w : World) (hok : GtOk w p g) (hr : w.rangeAt tb 0 (gtL g p)) :
    Calls Tryz.prog 49 #[.pointer (some ⟨tb, 0, none⟩)] w fun e w' => e = .returned (.tuple #[.int .i64 0, .int .i64 (gtE g)]) ∧ Below w.heap.size w w' := by
  have HOk := hid hok
  clear hok
  go_enter Tryz.func49, Tryz.ntmps49
  go_wp2_with (refine wpList_load_mid rfl 25 _ rfl _ 0 rfl (gtL g p) _ (hr) Tryz.underlying25 rfl (by kernel_rfl) ?_)
  refine (gateError_any g p _ HOk.out).mono ?_
  rintro e w' ⟨rfl, hb⟩
  go_wp2_with fail
  go_ret2
  exact ⟨ret_two rfl rfl, hb⟩
set_option maxRecDepth 100000 in
set_option maxHeartbeats 1000000 in
theorem bolt2_any (tb sb : Nat) (g : Gt) (p : GtP) (s : St) (w : World) (hr : w.rangeAt tb 0 (gtL g p)) (hs : w.rangeAt sb 0 (stL s)) :
    Calls Tryz.prog 50 #[.pointer (some ⟨tb, 0, none⟩), .pointer (some ⟨sb, 0, none⟩)] w fun e w' => e = .returned (.tuple #[.int .i64 0, .int .i64 (stE g s)]) ∧ Below w.heap.size w w' := by
  have s0 := range_cell hs (show (stL s)[0]? = some (.int .i64 s.pos) from rfl)
  have s1 := range_cell hs (show (stL s)[1]? = some (.int .i64 s.charge) from rfl)
  have s2 := range_cell hs (show (stL s)[2]? = some (.bool s.bolted) from rfl)
  go_enter Tryz.func50, Tryz.ntmps50
  go_wp2_with (refine wpList_load_mid rfl 25 _ rfl _ 0 rfl (gtL g p) _ (hr) Tryz.underlying25 rfl (by kernel_rfl) ?_)
  refine (stateError_any g p s _).mono ?_
  rintro e w' ⟨rfl, hb⟩
  go_wp2_with fail
  go_ret2
  exact ⟨ret_two rfl rfl, hb⟩
set_option maxRecDepth 100000 in
set_option maxHeartbeats 1000000 in
theorem bolt3_any (tb sb ob rb : Nat) (g : Gt) (p : GtP) (s : St) (on : Bool) (ra : Option Addr) (rs : List Int) (mc m : Nat) (w : World) (hm : rs.length = m) (hm8 : m ≤ 140737488355328) (hok : GtOk w p g) (hra : IntsAt w ra rs) (hr : w.rangeAt tb 0 (gtL g p)) (hs : w.rangeAt sb 0 (stL s)) (ho : w.cell? ⟨ob, 0, none⟩ = some (.bool on)) (hv : w.cell? ⟨rb, 0, none⟩ = some (.slice ra m mc)) :
    Calls Tryz.prog 51 #[.pointer (some ⟨tb, 0, none⟩), .pointer (some ⟨sb, 0, none⟩), .pointer (some ⟨ob, 0, none⟩), .pointer (some ⟨rb, 0, none⟩)] w fun e w' => e = .returned (.tuple #[.int .i64 0, .int .i64 (boltE g s on rs)]) ∧ Below w.heap.size w w' := by
  have s0 := range_cell hs (show (stL s)[0]? = some (.int .i64 s.pos) from rfl)
  have s1 := range_cell hs (show (stL s)[1]? = some (.int .i64 s.charge) from rfl)
  have s2 := range_cell hs (show (stL s)[2]? = some (.bool s.bolted) from rfl)
  have HB := hid (boltError_any g p s on ra rs mc m w hm hm8 hok hra)
  clear hok hra hm hm8
  go_enter Tryz.func51, Tryz.ntmps51
  go_wp2_with (refine wpList_load_mid rfl 25 _ rfl _ 0 rfl (gtL g p) _ (hr) Tryz.underlying25 rfl (by kernel_rfl) ?_)
  refine (HB.out).mono ?_
  rintro e w' ⟨rfl, hb⟩
  go_wp2_with fail
  go_ret2
  exact ⟨ret_two rfl rfl, hb⟩
theorem first3_any {K0 K1 K2 : FuncId} {c0 c1 c2 : Array Value} {p0 p1 p2 : Int × Int} {w1 : World} (T : TypeId) (h0 : Chk w1.heap.size w1 K0 c0 p0) (h1 : Chk w1.heap.size w1 K1 c1 p1) (h2 : Chk w1.heap.size w1 K2 c2 p2) :
    Calls Tryz.prog 33 #[.slice (some ⟨w1.heap.size, 0, none⟩) 3 3] (w1.alloc (.cells #[.func (.func K0) #[] c0, .func (.func K1) #[] c1, .func (.func K2) #[] c2] T))
      fun e w' => e = .returned (.tuple #[.int .i64 (firstAt 0 [p0, p1, p2]).1, .int .i64 (firstAt 0 [p0, p1, p2]).2.1, .int .i64 (firstAt 0 [p0, p1, p2]).2.2]) ∧ Below (w1.alloc (.cells #[.func (.func K0) #[] c0, .func (.func K1) #[] c1, .func (.func K2) #[] c2] T)).heap.size (w1.alloc (.cells #[.func (.func K0) #[] c0, .func (.func K1) #[] c1, .func (.func K2) #[] c2] T)) w' := by
  have ha : Below w1.heap.size w1 (w1.alloc (.cells #[.func (.func K0) #[] c0, .func (.func K1) #[] c1, .func (.func K2) #[] c2] T)) := (Below.refl _ _).alloc (Nat.le_refl _) _
  have k0 := h0.later ha
  have k1 := h1.later ha
  have k2 := h2.later ha
  refine first_any w1.heap.size (w1.alloc (.cells #[.func (.func K0) #[] c0, .func (.func K1) #[] c1, .func (.func K2) #[] c2] T)) [p0, p1, p2] w1.heap.size 0 3 (fun i => match i with | 0 => K0 | 1 => K1 | _ => K2) (fun i => match i with | 0 => c0 | 1 => c1 | _ => c2) _ (by simp) (by simp) (Below.refl _ _) (by simp) (fun i hi => ?_) (fun i hi => ?_)
  · match i, hi with
    | 0, _ => simp [go_sem]
    | 1, _ => simp [go_sem]
    | 2, _ => simp [go_sem]
  · match i, hi with
    | 0, _ => exact k0
    | 1, _ => exact k1
    | 2, _ => exact k2
theorem set3_cells {x : World} {C : Nat} {v0 v1 v2 : Value} (h0 : ∃ z, x.cell? ⟨C, 0, none⟩ = some z) (h1 : ∃ z, x.cell? ⟨C, 1, none⟩ = some z) (h2 : ∃ z, x.cell? ⟨C, 2, none⟩ = some z) :
    (((x.setCell ⟨C, 0, none⟩ v0).setCell ⟨C, 1, none⟩ v1).setCell ⟨C, 2, none⟩ v2).cell? ⟨C, 0, none⟩ = some v0 ∧ (((x.setCell ⟨C, 0, none⟩ v0).setCell ⟨C, 1, none⟩ v1).setCell ⟨C, 2, none⟩ v2).cell? ⟨C, 1, none⟩ = some v1 ∧ (((x.setCell ⟨C, 0, none⟩ v0).setCell ⟨C, 1, none⟩ v1).setCell ⟨C, 2, none⟩ v2).cell? ⟨C, 2, none⟩ = some v2 :=
  ⟨(cs_o (.inr (by omega))).trans ((cs_o (.inr (by omega))).trans (cs_s h0)), (cs_o (.inr (by omega))).trans (cs_s (cell_ex h1)), cs_s (cell_ex (cell_ex h2))⟩
/-- The five boxes of Bolt in memory. -/
structure BtW (w : World) (g : Gt) (p : GtP) (s : St) (on : Bool) (v : Value) (x : World) : Prop where
  below : Below w.heap.size w x
  lt : w.heap.size + 1 + 1 + 1 + 1 < x.heap.size
  rows : x.rangeAt w.heap.size 0 (gtL g p)
  s0 : x.cell? ⟨w.heap.size + 1, 0, none⟩ = some (.int .i64 s.pos)
  s1 : x.cell? ⟨w.heap.size + 1, 1, none⟩ = some (.int .i64 s.charge)
  s2 : x.cell? ⟨w.heap.size + 1, 2, none⟩ = some (.bool s.bolted)
  o0 : x.cell? ⟨w.heap.size + 1 + 1, 0, none⟩ = some (.bool on)
  v0 : x.cell? ⟨w.heap.size + 1 + 1 + 1, 0, none⟩ = some v
  r0 : x.cell? ⟨w.heap.size + 1 + 1 + 1 + 1, 0, none⟩ = some (.int .i64 0)
  r1 : x.cell? ⟨w.heap.size + 1 + 1 + 1 + 1, 1, none⟩ = some (.int .i64 0)
  r2 : x.cell? ⟨w.heap.size + 1 + 1 + 1 + 1, 2, none⟩ = some (.bool false)
  fs : ∀ o, x.frozen? ⟨w.heap.size + 1, o, none⟩ = false
  fr : ∀ o, x.frozen? ⟨w.heap.size + 1 + 1 + 1 + 1, o, none⟩ = false
theorem BtW.later {w x y : World} {g : Gt} {p : GtP} {s : St} {on : Bool} {v : Value} (h : BtW w g p s on v x) (hb : Below x.heap.size x y) : BtW w g p s on v y := by
  have hl := h.lt
  have c : ∀ b o, b < x.heap.size → y.cell? ⟨b, o, none⟩ = x.cell? ⟨b, o, none⟩ := fun b o hlt => hb.cell (p := ⟨b, o, none⟩) hlt
  have f : ∀ b o, b < x.heap.size → y.frozen? ⟨b, o, none⟩ = x.frozen? ⟨b, o, none⟩ := fun b o hlt => hb.frozen (p := ⟨b, o, none⟩) hlt
  exact ⟨bthenY h.below hb, Nat.lt_of_lt_of_le hl hb.size, range_later h.rows hb (by omega), (c _ _ (by omega)).trans h.s0, (c _ _ (by omega)).trans h.s1, (c _ _ (by omega)).trans h.s2, (c _ _ (by omega)).trans h.o0, (c _ _ (by omega)).trans h.v0, (c _ _ (by omega)).trans h.r0, (c _ _ (by omega)).trans h.r1, (c _ _ (by omega)).trans h.r2, fun o => (f _ _ (by omega)).trans (h.fs o), fun o => (f _ _ (by omega)).trans (h.fr o)⟩
theorem BtW.ss {w x : World} {g : Gt} {p : GtP} {s : St} {on : Bool} {v : Value} (h : BtW w g p s on v x) : x.rangeAt (w.heap.size + 1) 0 (stL s) := fun j u hu => by
  have hj : j < 3 := (List.getElem?_eq_some_iff.1 hu).1
  rw [Nat.zero_add]
  match j, hj with
  | 0, _ => have : u = .int .i64 s.pos := by simpa [stL] using hu.symm
            subst this; exact h.s0
  | 1, _ => have : u = .int .i64 s.charge := by simpa [stL] using hu.symm
            subst this; exact h.s1
  | 2, _ => have : u = .bool s.bolted := by simpa [stL] using hu.symm
            subst this; exact h.s2
theorem BtW.start (w : World) (g : Gt) (p : GtP) (s : St) (on : Bool) (v : Value) : BtW w g p s on v (((((w.alloc (.cells (gtL g p).toArray 25)).alloc (.cells #[.int .i64 s.pos, .int .i64 s.charge, .bool s.bolted] 27)).alloc (.cells #[.bool on] 4)).alloc (.cells #[v] 22)).alloc (.cells #[.int .i64 0, .int .i64 0, .bool false] 27)) := by
  have hB : Below (w.alloc (.cells (gtL g p).toArray 25)).heap.size (w.alloc (.cells (gtL g p).toArray 25)) (((((w.alloc (.cells (gtL g p).toArray 25)).alloc (.cells #[.int .i64 s.pos, .int .i64 s.charge, .bool s.bolted] 27)).alloc (.cells #[.bool on] 4)).alloc (.cells #[v] 22)).alloc (.cells #[.int .i64 0, .int .i64 0, .bool false] 27)) := ((((Below.refl _ _).alloc (Nat.le_refl _) _).alloc (by simp) _).alloc (by simp <;> omega) _).alloc (by simp <;> omega) _
  have hA : Below w.heap.size w (w.alloc (.cells (gtL g p).toArray 25)) := (Below.refl _ _).alloc (Nat.le_refl _) _
  exact ⟨hA.trans (hB.mono hA.size), by simp, range_later (range_alloc w (gtL g p) 25) hB (by simp), by simp [go_sem], by simp [go_sem], by simp [go_sem], by simp [go_sem], by simp [go_sem], by simp [go_sem], by simp [go_sem], by simp [go_sem], fun o => by simp [go_sem], fun o => by simp [go_sem]⟩
set_option maxRecDepth 100000 in
set_option maxHeartbeats 4000000 in
theorem bolt_any (g : Gt) (p : GtP) (s : St) (on : Bool) (ra : Option Addr) (rs : List Int) (mc m : Nat) (w : World) (hm : rs.length = m) (hm8 : m ≤ 140737488355328) (hok : GtOk w p g) (hra : IntsAt w ra rs) :
    Calls Tryz.prog 20 #[.agg (gtL g p).toArray, .agg #[.int .i64 s.pos, .int .i64 s.charge, .bool s.bolted], .bool on, .slice ra m mc] w fun e w' => e = .returned (.tuple #[.agg #[.int .i64 (boltP g s on rs).1.pos, .int .i64 (boltP g s on rs).1.charge, .bool (boltP g s on rs).1.bolted], .int .i64 (boltP g s on rs).2]) ∧ Below w.heap.size w w' := by
  have HE := hid (show boltP g s on rs = if boltEE g s on rs ≠ 0 then (⟨0, 0, false⟩, boltEE g s on rs) else (⟨s.pos, s.charge, on⟩, 0) from rfl)
  have HEE := hid (show boltEE g s on rs = (firstAt 0 [(0, gtE g), (0, stE g s), (0, boltE g s on rs)]).2.2 from rfl)
  have H0 := hid (BtW.start w g p s on (.slice ra m mc))
  have HOk := hid hok; have HRa := hid hra
  clear hok hra
  go_enter Tryz.func20, Tryz.ntmps20
  go_wp2_with fail
  generalize hW1 : World.alloc (World.alloc (World.alloc (World.alloc (World.alloc w _) _) _) _) _ = W1
  have sW1 : w.heap.size + 1 + 1 + 1 + 1 + 1 = W1.heap.size := by rw [← hW1]; simp
  rw [hW1] at H0
  clear hW1
  try rw [sW1]
  have hl1 := H0.out.lt
  have C1 : Chk W1.heap.size W1 49 #[.pointer (some ⟨w.heap.size, 0, none⟩)] (0, gtE g) := ⟨callFunc_bolt1, fun W hW => bolt1_any w.heap.size g p W (HOk.out.later (bthenY H0.out.below hW) (Nat.le_refl _)) (range_later H0.out.rows hW (by omega))⟩
  have C2 : Chk W1.heap.size W1 50 #[.pointer (some ⟨w.heap.size, 0, none⟩), .pointer (some ⟨w.heap.size + 1, 0, none⟩)] (0, stE g s) := ⟨callFunc_bolt2, fun W hW => bolt2_any w.heap.size (w.heap.size + 1) g p s W (range_later H0.out.rows hW (by omega)) (H0.out.later hW).ss⟩
  have C3 : Chk W1.heap.size W1 51 #[.pointer (some ⟨w.heap.size, 0, none⟩), .pointer (some ⟨w.heap.size + 1, 0, none⟩), .pointer (some ⟨w.heap.size + 1 + 1, 0, none⟩), .pointer (some ⟨w.heap.size + 1 + 1 + 1, 0, none⟩)] (0, boltE g s on rs) := by
    refine ⟨callFunc_bolt3, fun W hW => ?_⟩
    have hB := bthenY H0.out.below hW
    have hL := H0.out.later hW
    have h1 := HOk.out.later hB (Nat.le_refl _)
    have h2 := HRa.out.later hB (Nat.le_refl _)
    exact bolt3_any w.heap.size (w.heap.size + 1) (w.heap.size + 1 + 1) (w.heap.size + 1 + 1 + 1) g p s on ra rs mc m W hm hm8 h1 h2 hL.rows hL.ss hL.o0 hL.v0
  refine (first3_any _ C1 C2 C3).mono ?_
  rintro e w2 ⟨rfl, hb⟩
  have H2 := hid (H0.out.later (bthenY ((Below.refl _ _).alloc (Nat.le_refl _) _) hb))
  clear C1 C2 C3 hb H0 hl1
  rw [← HEE.out]
  obtain ⟨fr', hfr⟩ : ∃ z, firstAt 0 [(0, gtE g), (0, stE g s), (0, boltE g s on rs)] = z := ⟨_, rfl⟩
  rw [hfr]
  clear hfr HEE
  generalize boltEE g s on rs = x at *
  obtain ⟨-, lt2, -, s0, s1, s2, o0, v0, r0, r1, r2, fs, fr⟩ := H2.out
  have l1 : w.heap.size + 1 < w2.heap.size := by omega
  have l4 : w.heap.size + 1 + 1 + 1 + 1 < w2.heap.size := lt2
  by_cases hx : x = 0
  · have q : (x != 0) = false := by simp [hx]
    have HR := hid (HE.out.trans (if_neg (by simp [hx])))
    clear hx HE
    go_wp2_with fail
    have hB := H2.out.below
    obtain ⟨e0, e1, e2⟩ := set3_cells (x := w2.setCell ⟨w.heap.size + 1, 2, none⟩ (.bool on)) (C := w.heap.size + 1 + 1 + 1 + 1) (v0 := .int .i64 s.pos) (v1 := .int .i64 s.charge) (v2 := .bool on) (cell_ex ⟨_, r0⟩) (cell_ex ⟨_, r1⟩) (cell_ex ⟨_, r2⟩)
    have hF := (((hB.setCell (p := ⟨w.heap.size + 1, 2, none⟩) (by show w.heap.size ≤ w.heap.size + 1; omega) (.bool on)).setCell (p := ⟨w.heap.size + 1 + 1 + 1 + 1, 0, none⟩) (by show w.heap.size ≤ w.heap.size + 1 + 1 + 1 + 1; omega) (.int .i64 s.pos)).setCell (p := ⟨w.heap.size + 1 + 1 + 1 + 1, 1, none⟩) (by show w.heap.size ≤ w.heap.size + 1 + 1 + 1 + 1; omega) (.int .i64 s.charge)).setCell (p := ⟨w.heap.size + 1 + 1 + 1 + 1, 2, none⟩) (by show w.heap.size ≤ w.heap.size + 1 + 1 + 1 + 1; omega) (.bool on)
    generalize World.setCell (World.setCell (World.setCell _ _ _) _ _) _ _ = F at *
    refine bodyPost_ret (v := .tuple #[.agg #[.int .i64 s.pos, .int .i64 s.charge, .bool on], .int .i64 0]) (by simp [results, Tryz.results20, go_sem, e0, e1, e2]) rfl ⟨by rw [HR.out], hF⟩
  · have q : (x != 0) = true := by simp [hx]
    have HR := hid (HE.out.trans (if_pos hx))
    clear hx HE
    go_wp2_with fail
    have hB := H2.out.below
    obtain ⟨e0, e1, e2⟩ := set3_cells (x := w2) (C := w.heap.size + 1 + 1 + 1 + 1) (v0 := .int .i64 0) (v1 := .int .i64 0) (v2 := .bool false) ⟨_, r0⟩ ⟨_, r1⟩ ⟨_, r2⟩
    have hF := ((hB.setCell (p := ⟨w.heap.size + 1 + 1 + 1 + 1, 0, none⟩) (by show w.heap.size ≤ w.heap.size + 1 + 1 + 1 + 1; omega) (.int .i64 0)).setCell (p := ⟨w.heap.size + 1 + 1 + 1 + 1, 1, none⟩) (by show w.heap.size ≤ w.heap.size + 1 + 1 + 1 + 1; omega) (.int .i64 0)).setCell (p := ⟨w.heap.size + 1 + 1 + 1 + 1, 2, none⟩) (by show w.heap.size ≤ w.heap.size + 1 + 1 + 1 + 1; omega) (.bool false)
    generalize World.setCell (World.setCell (World.setCell _ _ _) _ _) _ _ = F at *
    refine bodyPost_ret (v := .tuple #[.agg #[.int .i64 0, .int .i64 0, .bool false], .int .i64 x]) (by simp [results, Tryz.results20, go_sem, e0, e1, e2]) rfl ⟨by rw [HR.out], hF⟩
end Go.Proofs.YtdoklolinbmhpaaGreat
