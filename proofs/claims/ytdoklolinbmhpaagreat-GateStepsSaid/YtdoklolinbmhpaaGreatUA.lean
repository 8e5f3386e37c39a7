/- Base, part UA: the small checks of package tide: must, each, first, in, isLevel, isTick, areTicks, isLetter, isDigit. -/
import Derived.Test.YtdoklolinbmhpaaGreatRows
import Derived.WalkKit
import Derived.WalkSpells
import Derived.WalkLawsBesides
import Derived.StillTactics
import Derived.BigQuiet
import Derived.Deep.QuietTactic
import Derived.Deep.LoopGhost
import Derived.Deep.DeepMust
set_option linter.all false
namespace Go.Proofs.YtdoklolinbmhpaaGreat
open Go.RowKit

theorem hid {p : Prop} (h : p) : Hid p := h

/-- What a contract that makes memory leaves: all old cells and marks read as before. -/
theorem bcell {W w1 : World} (hb : Below W.heap.size W w1) : (∀ b o, b < W.heap.size → w1.cell? ⟨b, o, none⟩ = W.cell? ⟨b, o, none⟩) ∧ (∀ b o, b < W.heap.size → w1.frozen? ⟨b, o, none⟩ = W.frozen? ⟨b, o, none⟩) :=
  ⟨fun b o h => hb.cell (p := ⟨b, o, none⟩) h, fun b o h => hb.frozen (p := ⟨b, o, none⟩) h⟩

def inB (x lo hi : Int) : Bool := decide (lo ≤ x ∧ x ≤ hi)
theorem inB_iff {x lo hi : Int} : inB x lo hi = true ↔ lo ≤ x ∧ x ≤ hi := by simp [inB]
theorem inB_no {x lo hi : Int} : inB x lo hi = false ↔ ¬ (lo ≤ x ∧ x ≤ hi) := by simp only [inB, decide_eq_false_iff_not]

/-! ### A region that draws its order, whose operations read, and whose calls return one value each and make memory alone -/

/-- The worlds that are, below B, what W is. -/
structure Later (B : Nat) (W : World) where
  wd : World
  below : Below B W wd
instance {B : Nat} {W : World} : Nonempty (Later B W) := ⟨⟨W, Below.refl _ _⟩⟩
theorem wp_region_grow {P : Program} {id : Nat} {Q : Exit → Act → World → Prop} {a : Act} {w : World} {l : List Oper} (B : Nat) (hm : P.follows .mixedOrders = true) (hB : Region.lexB .any l.toArray = true)
    (h : wpQuiet P l.toArray (fun w' => ∃ X : Later B w, w' = X.wd) (fun a' => ∀ w', (∃ X : Later B w, w' = X.wd) → Q .normal a' w') l a) : (Code.region id l.toArray true).wp P Q a w :=
  wp_region_quiet (C := fun w' => ∃ X : Later B w, w' = X.wd) hm hB ⟨⟨_, (Below.refl _ _).drew⟩, rfl⟩ (by simpa using h)
theorem later_same {P : Program} {f : FuncId} {args : Array Value} {B : Nat} {W : World} {X : Later B W} {v : Value}
    (h : Calls P f args X.wd fun e w' => e = .returned v ∧ X.wd = w') : Calls P f args X.wd fun e w'' => e = .returned v ∧ ∃ Y : Later B W, w'' = Y.wd :=
  h.mono fun _ _ ⟨he, hm⟩ => ⟨he, X, hm.symm⟩
theorem later_grow {P : Program} {f : FuncId} {args : Array Value} {B : Nat} {W : World} {X : Later B W} {v : Value} (hB : B ≤ W.heap.size)
    (h : Calls P f args X.wd fun e w' => e = .returned v ∧ Below X.wd.heap.size X.wd w') : Calls P f args X.wd fun e w'' => e = .returned v ∧ ∃ Y : Later B W, w'' = Y.wd :=
  h.mono fun _ _ ⟨he, hm⟩ => ⟨he, ⟨_, X.below.trans (hm.mono (Nat.le_trans hB X.below.size))⟩, rfl⟩

theorem in_any (x lo hi : Int) (w : World) :
    Calls Tryz.prog 73 #[.int .i64 x, .int .i64 lo, .int .i64 hi] w fun e w' => e = .returned (.bool (inB x lo hi)) ∧ w = w' := by
  by_cases h1 : lo ≤ x <;> by_cases h2 : x ≤ hi
  all_goals
    have h : inB x lo hi = decide (lo ≤ x ∧ x ≤ hi) := rfl
    simp only [h1, h2, and_self, and_true, and_false, decide_true, decide_false] at h
    have H := hid h; clear h
    go_enter Tryz.func73, Tryz.ntmps73
    go_wp2
    go_ret
    exact ⟨by rw [H.out]; simp [*], rfl⟩

theorem in_val (b : Bool) (x lo hi : Int) (w : World) (h : inB x lo hi = b) :
    Calls Tryz.prog 73 #[.int .i64 x, .int .i64 lo, .int .i64 hi] w fun e w' => e = .returned (.bool b) ∧ w = w' := by
  rw [← h]; exact in_any x lo hi w

theorem isLevel_any (x : Int) (w : World) :
    Calls Tryz.prog 107 #[.int .i64 x] w fun e w' => e = .returned (.bool (inB x (-20000) 20000)) ∧ w = w' := by
  go_enter Tryz.func107, Tryz.ntmps107
  go_wp2_with (go_at_call 73; refine (in_any _ _ _ _).mono ?_; rintro e w' ⟨rfl, rfl⟩)
  go_ret
  exact ⟨rfl, rfl⟩

/-! ### Function values that check -/

/-- A function value K, caps with no arguments of its own returns two numbers in each world that is, below B, what w0 was. -/
def Chk (B : Nat) (w0 : World) (K : FuncId) (caps : Array Value) (p : Int × Int) : Prop :=
  (∀ args w, (callFunc K args).run Tryz.prog w = .ok (.enter K args) w) ∧
    ∀ w, Below B w0 w → Calls Tryz.prog K caps w fun e w' => e = .returned (.tuple #[.int .i64 p.1, .int .i64 p.2]) ∧ Below w.heap.size w w'
theorem Chk.later {B : Nat} {w0 w1 : World} {K : FuncId} {caps : Array Value} {p : Int × Int} (h : Chk B w0 K caps p) (hb : Below B w0 w1) : Chk B w1 K caps p :=
  ⟨h.1, fun w hw => h.2 w (hb.trans hw)⟩

theorem Chk.mono {B B' : Nat} {w0 : World} {K : FuncId} {caps : Array Value} {p : Int × Int} (h : Chk B w0 K caps p) (hb : B ≤ B') : Chk B' w0 K caps p :=
  ⟨h.1, fun w hw => h.2 w (hw.mono hb)⟩
/-- A check that was made stands at its world's end; so does it later. -/
theorem Chk.at {w0 w1 : World} {K : FuncId} {caps : Array Value} {p : Int × Int} (h : Chk w0.heap.size w0 K caps p) (hb : Below w0.heap.size w0 w1) : Chk w1.heap.size w1 K caps p :=
  (h.later hb).mono hb.size

theorem callFunc_must1 (args : Array Value) (w : World) : (callFunc 72 args).run Tryz.prog w = .ok (.enter 72 args) w := by simp [go_sem]
theorem callFunc_each1 (args : Array Value) (w : World) : (callFunc 74 args).run Tryz.prog w = .ok (.enter 74 args) w := by simp [go_sem]

/-- What must's function value returns. -/
def mustP (ok : Bool) (x y : Int) : Int × Int := (bif ok then 0 else x, bif ok then 0 else y)

theorem must1_any (ok : Bool) (x y : Int) (b0 b1 b2 : Nat) (w : World) (h0 : w.cell? ⟨b0, 0, none⟩ = some (.bool ok)) (h1 : w.cell? ⟨b1, 0, none⟩ = some (.int .i64 x)) (h2 : w.cell? ⟨b2, 0, none⟩ = some (.int .i64 y)) :
    Calls Tryz.prog 72 #[.pointer (some ⟨b0, 0, none⟩), .pointer (some ⟨b1, 0, none⟩), .pointer (some ⟨b2, 0, none⟩)] w
      fun e w' => e = .returned (.tuple #[.int .i64 (mustP ok x y).1, .int .i64 (mustP ok x y).2]) ∧ Below w.heap.size w w' := by
  cases ok
  · go_enter Tryz.func72, Tryz.ntmps72
    go_wp2
    go_quiet (fail)
    go_wp2
    go_ret2
    exact ⟨rfl, below_drewN (Below.refl _ _) _⟩
  · go_enter Tryz.func72, Tryz.ntmps72
    go_wp2
    go_ret2
    exact ⟨rfl, Below.refl _ _⟩
/-- must: a function value that checks. -/
theorem must_any (ok : Bool) (x y : Int) (w : World) :
    Calls Tryz.prog 35 #[.bool ok, .int .i64 x, .int .i64 y] w
      fun e w' => ∃ caps, e = .returned (.func (.func 72) #[] caps) ∧ Below w.heap.size w w' ∧ Chk w'.heap.size w' 72 caps (mustP ok x y) := by
  go_enter Tryz.func35, Tryz.ntmps35
  go_wp2
  go_ret
  refine ⟨_, rfl, (((Below.refl _ _).alloc (Nat.le_refl _) _).alloc (by simp) _).alloc (by simp; omega) _, callFunc_must1, fun w1 hb => ?_⟩
  refine must1_any ok x y _ _ _ _ ?_ ?_ ?_
  all_goals (rw [hb.cell (p := ⟨_, _, _⟩) (by simp <;> omega)]; simp [go_sem])

def firstAt : Nat → List (Int × Int) → Int × Int × Int
  | _, [] => (0, 0, 0)
  | k, (a, e) :: r => if e ≠ 0 then (((k + 1 : Nat) : Int), a, e) else firstAt (k + 1) r
theorem firstAt_yes {k : Nat} {l : List (Int × Int)} (h : k < l.length) (he : l[k].2 ≠ 0) : firstAt k (l.drop k) = (((k + 1 : Nat) : Int), l[k].1, l[k].2) := by
  rw [List.drop_eq_getElem_cons h]; simp [firstAt, he]
theorem firstAt_no {k : Nat} {l : List (Int × Int)} (h : k < l.length) (he : l[k].2 = 0) : firstAt k (l.drop k) = firstAt (k + 1) (l.drop (k + 1)) := by
  rw [List.drop_eq_getElem_cons h]; simp [firstAt, he]

set_option maxRecDepth 20000 in
set_option maxHeartbeats 400000 in
/-- first: the first of some checks that finds something. -/
theorem first_any (B : Nat) (w0 : World) (l : List (Int × Int)) (b o cap : Nat) (Ks : Nat → FuncId) (caps : Nat → Array Value) (w : World) (hn : l.length ≤ 100) (hB : B ≤ w.heap.size) (hw0 : Below B w0 w) (hb : b < w.heap.size)
    (hc : ∀ i, i < l.length → w.cell? ⟨b, o + i, none⟩ = some (.func (.func (Ks i)) #[] (caps i))) (hk : ∀ i (h : i < l.length), Chk B w0 (Ks i) (caps i) l[i]) :
    Calls Tryz.prog 33 #[.slice (some ⟨b, o, none⟩) l.length cap] w fun e w' => e = .returned (.tuple #[.int .i64 (firstAt 0 l).1, .int .i64 (firstAt 0 l).2.1, .int .i64 (firstAt 0 l).2.2]) ∧ Below w.heap.size w w' := by
  have HC := hid hc; clear hc
  have HK := hid hk; clear hk
  go_enter Tryz.func33, Tryz.ntmps33
  go_wp2_with fail
  go_loopw [5,6,7,8,11] (fun a b c d i wr => ∃ k : Nat, k ≤ l.length ∧ i = .int .i64 k ∧ Hid (firstAt 0 l = firstAt k (l.drop k)) ∧ Below w.heap.size w wr) (fun _ _ _ _ i _ => l.length - (intOf i).toNat)
  case atStart => exact ⟨0, Nat.zero_le _, rfl, hid (by simp), Below.refl _ _⟩
  case round =>
    obtain ⟨k, hk, rfl, hf, hbw⟩ := hrel
    by_cases hlt : k < l.length
    · obtain ⟨hcall, hC⟩ := HK.out k hlt
      have hcell : wr.cell? ⟨b, o + k, none⟩ = some (.func (.func (Ks k)) #[] (caps k)) := by rw [hbw.cell (p := ⟨b, o + k, none⟩) hb]; exact HC.out k hlt
      have HD := hid (hC wr (hw0.trans (hbw.mono hB)));  clear hC
      generalize Ks k = K at *
      generalize caps k = cs at *
      have hyes := fun he => firstAt_yes (l := l) (k := k) hlt he
      have hno := fun he => firstAt_no (l := l) (k := k) hlt he
      generalize l[k].1 = x at *
      generalize l[k].2 = y at *
      have HY := hid hyes; clear hyes
      have HN := hid hno; clear hno
      go_wp2_with fail
      refine (HD.out).mono ?_
      rintro e w' ⟨rfl, hb'⟩
      go_wp2_with fail
      · have hy : (y != 0) = true := by assumption
        refine bodyPost_ret (v := .tuple #[.int .i64 (k + 1), .int .i64 x, .int .i64 y]) (by simp [results, Tryz.results33, go_sem]) rfl ⟨?_, hbw.trans (hb'.mono hbw.size)⟩
        rw [hf.out, HY.out (by simpa using hy)]; simp
      · have hy : (y != 0) = false := by assumption
        refine ⟨⟨k + 1, by omega, by go_num, hid (by rw [hf.out, HN.out (by simpa using hy)]), hbw.trans (hb'.mono hbw.size)⟩, ?_⟩
        simp [intOf]; omega
    · have hkl : k = l.length := by omega
      have HL := hid hkl; clear hkl
      go_wp2_with fail
      refine bodyPost_ret (v := .tuple #[.int .i64 0, .int .i64 0, .int .i64 0]) (by simp [results, Tryz.results33, go_sem]) rfl ⟨?_, hbw⟩
      rw [hf.out, HL.out]; simp [firstAt]


/-- first, of 2 checks that were made one behind the other. -/
theorem first2_chain {K0 K1 : FuncId} {c0 c1 : Array Value} {p0 : Int × Int} {p1 : Int × Int} {w0 w1 : World} (T : TypeId) (h0 : Chk w0.heap.size w0 K0 c0 p0) (b0 : Below w0.heap.size w0 w1) (h1 : Chk w1.heap.size w1 K1 c1 p1) :
    Calls Tryz.prog 33 #[.slice (some ⟨w1.heap.size, 0, none⟩) 2 2] (w1.alloc (.cells #[.func (.func K0) #[] c0, .func (.func K1) #[] c1] T))
      fun e w' => e = .returned (.tuple #[.int .i64 (firstAt 0 [p0, p1]).1, .int .i64 (firstAt 0 [p0, p1]).2.1, .int .i64 (firstAt 0 [p0, p1]).2.2]) ∧ Below (w1.alloc (.cells #[.func (.func K0) #[] c0, .func (.func K1) #[] c1] T)).heap.size (w1.alloc (.cells #[.func (.func K0) #[] c0, .func (.func K1) #[] c1] T)) w' := by
  have ha : Below w1.heap.size w1 (w1.alloc (.cells #[.func (.func K0) #[] c0, .func (.func K1) #[] c1] T)) := (Below.refl _ _).alloc (Nat.le_refl _) _
  have k0 : Chk w1.heap.size (w1.alloc (.cells #[.func (.func K0) #[] c0, .func (.func K1) #[] c1] T)) K0 c0 p0 := (h0.at b0).later ha
  have k1 : Chk w1.heap.size (w1.alloc (.cells #[.func (.func K0) #[] c0, .func (.func K1) #[] c1] T)) K1 c1 p1 := h1.later ha
  refine first_any w1.heap.size (w1.alloc (.cells #[.func (.func K0) #[] c0, .func (.func K1) #[] c1] T)) [p0, p1] w1.heap.size 0 2 (fun i => match i with | 0 => K0 | _ => K1) (fun i => match i with | 0 => c0 | _ => c1) _ (by simp) (by simp) (Below.refl _ _) (by simp) (fun i hi => ?_) (fun i hi => ?_)
  · match i, hi with
    | 0, _ => simp [go_sem]
    | 1, _ => simp [go_sem]
  · match i, hi with
    | 0, _ => exact k0
    | 1, _ => exact k1

/-- first, of 3 checks that were made one behind the other. -/
theorem first3_chain {K0 K1 K2 : FuncId} {c0 c1 c2 : Array Value} {p0 : Int × Int} {p1 : Int × Int} {p2 : Int × Int} {w0 w1 w2 : World} (T : TypeId) (h0 : Chk w0.heap.size w0 K0 c0 p0) (b0 : Below w0.heap.size w0 w1) (h1 : Chk w1.heap.size w1 K1 c1 p1) (b1 : Below w1.heap.size w1 w2) (h2 : Chk w2.heap.size w2 K2 c2 p2) :
    Calls Tryz.prog 33 #[.slice (some ⟨w2.heap.size, 0, none⟩) 3 3] (w2.alloc (.cells #[.func (.func K0) #[] c0, .func (.func K1) #[] c1, .func (.func K2) #[] c2] T))
      fun e w' => e = .returned (.tuple #[.int .i64 (firstAt 0 [p0, p1, p2]).1, .int .i64 (firstAt 0 [p0, p1, p2]).2.1, .int .i64 (firstAt 0 [p0, p1, p2]).2.2]) ∧ Below (w2.alloc (.cells #[.func (.func K0) #[] c0, .func (.func K1) #[] c1, .func (.func K2) #[] c2] T)).heap.size (w2.alloc (.cells #[.func (.func K0) #[] c0, .func (.func K1) #[] c1, .func (.func K2) #[] c2] T)) w' := by
  have ha : Below w2.heap.size w2 (w2.alloc (.cells #[.func (.func K0) #[] c0, .func (.func K1) #[] c1, .func (.func K2) #[] c2] T)) := (Below.refl _ _).alloc (Nat.le_refl _) _
  have k0 : Chk w2.heap.size (w2.alloc (.cells #[.func (.func K0) #[] c0, .func (.func K1) #[] c1, .func (.func K2) #[] c2] T)) K0 c0 p0 := ((h0.at b0).at b1).later ha
  have k1 : Chk w2.heap.size (w2.alloc (.cells #[.func (.func K0) #[] c0, .func (.func K1) #[] c1, .func (.func K2) #[] c2] T)) K1 c1 p1 := (h1.at b1).later ha
  have k2 : Chk w2.heap.size (w2.alloc (.cells #[.func (.func K0) #[] c0, .func (.func K1) #[] c1, .func (.func K2) #[] c2] T)) K2 c2 p2 := h2.later ha
  refine first_any w2.heap.size (w2.alloc (.cells #[.func (.func K0) #[] c0, .func (.func K1) #[] c1, .func (.func K2) #[] c2] T)) [p0, p1, p2] w2.heap.size 0 3 (fun i => match i with | 0 => K0 | 1 => K1 | _ => K2) (fun i => match i with | 0 => c0 | 1 => c1 | _ => c2) _ (by simp) (by simp) (Below.refl _ _) (by simp) (fun i hi => ?_) (fun i hi => ?_)
  · match i, hi with
    | 0, _ => simp [go_sem]
    | 1, _ => simp [go_sem]
    | 2, _ => simp [go_sem]
  · match i, hi with
    | 0, _ => exact k0
    | 1, _ => exact k1
    | 2, _ => exact k2

/-- first, of 4 checks that were made one behind the other. -/
theorem first4_chain {K0 K1 K2 K3 : FuncId} {c0 c1 c2 c3 : Array Value} {p0 : Int × Int} {p1 : Int × Int} {p2 : Int × Int} {p3 : Int × Int} {w0 w1 w2 w3 : World} (T : TypeId) (h0 : Chk w0.heap.size w0 K0 c0 p0) (b0 : Below w0.heap.size w0 w1) (h1 : Chk w1.heap.size w1 K1 c1 p1) (b1 : Below w1.heap.size w1 w2) (h2 : Chk w2.heap.size w2 K2 c2 p2) (b2 : Below w2.heap.size w2 w3) (h3 : Chk w3.heap.size w3 K3 c3 p3) :
    Calls Tryz.prog 33 #[.slice (some ⟨w3.heap.size, 0, none⟩) 4 4] (w3.alloc (.cells #[.func (.func K0) #[] c0, .func (.func K1) #[] c1, .func (.func K2) #[] c2, .func (.func K3) #[] c3] T))
      fun e w' => e = .returned (.tuple #[.int .i64 (firstAt 0 [p0, p1, p2, p3]).1, .int .i64 (firstAt 0 [p0, p1, p2, p3]).2.1, .int .i64 (firstAt 0 [p0, p1, p2, p3]).2.2]) ∧ Below (w3.alloc (.cells #[.func (.func K0) #[] c0, .func (.func K1) #[] c1, .func (.func K2) #[] c2, .func (.func K3) #[] c3] T)).heap.size (w3.alloc (.cells #[.func (.func K0) #[] c0, .func (.func K1) #[] c1, .func (.func K2) #[] c2, .func (.func K3) #[] c3] T)) w' := by
  have ha : Below w3.heap.size w3 (w3.alloc (.cells #[.func (.func K0) #[] c0, .func (.func K1) #[] c1, .func (.func K2) #[] c2, .func (.func K3) #[] c3] T)) := (Below.refl _ _).alloc (Nat.le_refl _) _
  have k0 : Chk w3.heap.size (w3.alloc (.cells #[.func (.func K0) #[] c0, .func (.func K1) #[] c1, .func (.func K2) #[] c2, .func (.func K3) #[] c3] T)) K0 c0 p0 := (((h0.at b0).at b1).at b2).later ha
  have k1 : Chk w3.heap.size (w3.alloc (.cells #[.func (.func K0) #[] c0, .func (.func K1) #[] c1, .func (.func K2) #[] c2, .func (.func K3) #[] c3] T)) K1 c1 p1 := ((h1.at b1).at b2).later ha
  have k2 : Chk w3.heap.size (w3.alloc (.cells #[.func (.func K0) #[] c0, .func (.func K1) #[] c1, .func (.func K2) #[] c2, .func (.func K3) #[] c3] T)) K2 c2 p2 := (h2.at b2).later ha
  have k3 : Chk w3.heap.size (w3.alloc (.cells #[.func (.func K0) #[] c0, .func (.func K1) #[] c1, .func (.func K2) #[] c2, .func (.func K3) #[] c3] T)) K3 c3 p3 := h3.later ha
  refine first_any w3.heap.size (w3.alloc (.cells #[.func (.func K0) #[] c0, .func (.func K1) #[] c1, .func (.func K2) #[] c2, .func (.func K3) #[] c3] T)) [p0, p1, p2, p3] w3.heap.size 0 4 (fun i => match i with | 0 => K0 | 1 => K1 | 2 => K2 | _ => K3) (fun i => match i with | 0 => c0 | 1 => c1 | 2 => c2 | _ => c3) _ (by simp) (by simp) (Below.refl _ _) (by simp) (fun i hi => ?_) (fun i hi => ?_)
  · match i, hi with
    | 0, _ => simp [go_sem]
    | 1, _ => simp [go_sem]
    | 2, _ => simp [go_sem]
    | 3, _ => simp [go_sem]
  · match i, hi with
    | 0, _ => exact k0
    | 1, _ => exact k1
    | 2, _ => exact k2
    | 3, _ => exact k3

/-- A function value K, caps with a number as its argument returns a number in each world that is, below B, what w0 was. -/
def ChkI (B : Nat) (w0 : World) (K : FuncId) (caps : Array Value) (n : Nat) (f : Nat → Int) : Prop :=
  (∀ args w, (callFunc K args).run Tryz.prog w = .ok (.enter K args) w) ∧
    ∀ i, i < n → ∀ w, Below B w0 w → Calls Tryz.prog K (#[.int .i64 i] ++ caps) w fun e w' => e = .returned (.int .i64 (f i)) ∧ Below w.heap.size w w'
theorem ChkI.later {B : Nat} {w0 w1 : World} {K : FuncId} {caps : Array Value} {n : Nat} {f : Nat → Int} (h : ChkI B w0 K caps n f) (hb : Below B w0 w1) : ChkI B w1 K caps n f :=
  ⟨h.1, fun i hi w hw => h.2 i hi w (hb.trans hw)⟩

/-- The first of n places at which there is an error. -/
def eachP (f : Nat → Int) : Nat → Nat → Int × Int
  | _, 0 => (0, 0)
  | k, n + 1 => if f k ≠ 0 then ((k : Int), f k) else eachP f (k + 1) n
theorem eachP_yes {f : Nat → Int} {k n : Nat} (h : k < n) (he : f k ≠ 0) : eachP f k (n - k) = ((k : Int), f k) := by
  obtain ⟨m, hm⟩ : ∃ m, n - k = m + 1 := ⟨n - k - 1, by omega⟩
  rw [hm]; simp [eachP, he]
theorem eachP_no {f : Nat → Int} {k n : Nat} (h : k < n) (he : f k = 0) : eachP f k (n - k) = eachP f (k + 1) (n - (k + 1)) := by
  obtain ⟨m, hm⟩ : ∃ m, n - k = m + 1 := ⟨n - k - 1, by omega⟩
  have hm' : n - (k + 1) = m := by omega
  rw [hm, hm']; simp [eachP, he]

set_option maxRecDepth 20000 in
set_option maxHeartbeats 400000 in
theorem each1_any (B : Nat) (w0 : World) (n : Nat) (f : Nat → Int) (K : FuncId) (caps : Array Value) (b0 b1 : Nat) (w : World) (hn : n ≤ 140737488355328) (hB : B ≤ w.heap.size) (hw0 : Below B w0 w)
    (_hb0 : b0 < w.heap.size) (hb1 : b1 < w.heap.size)
    (h0 : w.cell? ⟨b0, 0, none⟩ = some (.int .i64 n)) (h1 : w.cell? ⟨b1, 0, none⟩ = some (.func (.func K) #[] caps)) (hk : ChkI B w0 K caps n f) :
    Calls Tryz.prog 74 #[.pointer (some ⟨b0, 0, none⟩), .pointer (some ⟨b1, 0, none⟩)] w
      fun e w' => e = .returned (.tuple #[.int .i64 (eachP f 0 n).1, .int .i64 (eachP f 0 n).2]) ∧ Below w.heap.size w w' := by
  have HK := hid hk; clear hk
  go_enter Tryz.func74, Tryz.ntmps74
  go_wp2_with fail
  go_loopw [4,5,7] (fun a c i wr => ∃ k : Nat, k ≤ n ∧ i = .int .i64 k ∧ Hid (eachP f 0 n = eachP f k (n - k)) ∧ Below w.heap.size w wr) (fun _ _ i _ => n - (intOf i).toNat)
  case atStart => exact ⟨0, Nat.zero_le _, rfl, hid (by simp), Below.refl _ _⟩
  case round =>
    obtain ⟨k, hk, rfl, hf, hbw⟩ := hrel
    have hcell : wr.cell? ⟨b1, 0, none⟩ = some (.func (.func K) #[] caps) := by rw [hbw.cell (p := ⟨b1, 0, none⟩) hb1]; exact h1
    clear h0 h1
    by_cases hlt : k < n
    · obtain ⟨hcall, hC⟩ := HK.out
      have HD := hid (hC k hlt wr (hw0.trans (hbw.mono hB)));  clear hC
      have hyes := fun he => eachP_yes (f := f) hlt he
      have hno := fun he => eachP_no (f := f) hlt he
      generalize f k = y at *
      have HY := hid hyes; clear hyes
      have HN := hid hno; clear hno
      go_wp2_with fail
      refine (HD.out).mono ?_
      rintro e w' ⟨rfl, hb'⟩
      go_wp2_with fail
      · have hy : (y != 0) = true := by assumption
        go_ret2
        refine ⟨?_, hbw.trans (hb'.mono hbw.size)⟩
        rw [hf.out, HY.out (by simpa using hy)]; rfl
      · have hy : (y != 0) = false := by assumption
        refine ⟨⟨k + 1, by omega, by go_num, hid (by rw [hf.out, HN.out (by simpa using hy)]), hbw.trans (hb'.mono hbw.size)⟩, ?_⟩
        simp [intOf]; omega
    · have hkl : k = n := by omega
      have HL := hid hkl; clear hkl
      go_wp2_with fail
      go_ret2
      refine ⟨?_, hbw⟩
      rw [hf.out, HL.out]; simp [eachP]

/-- each: a function value that checks n places. -/
theorem each_any (B : Nat) (w0 : World) (n : Nat) (f : Nat → Int) (K : FuncId) (caps : Array Value) (w : World) (hn : n ≤ 140737488355328) (hB : B ≤ w.heap.size) (hw0 : Below B w0 w) (hk : ChkI B w0 K caps n f) :
    Calls Tryz.prog 38 #[.int .i64 n, .func (.func K) #[] caps] w
      fun e w' => ∃ caps, e = .returned (.func (.func 74) #[] caps) ∧ Below w.heap.size w w' ∧ Chk w'.heap.size w' 74 caps (eachP f 0 n) := by
  have HK := hid hk; clear hk
  go_enter Tryz.func38, Tryz.ntmps38
  go_wp2
  go_ret
  refine ⟨_, rfl, (((Below.refl _ _).alloc (Nat.le_refl _) _).alloc (by simp) _), callFunc_each1, fun w1 hb => ?_⟩
  have hb0 : Below B w0 w1 := hw0.trans ((((Below.refl _ _).alloc hB _).alloc (by simp; omega) _).trans (hb.mono (by simp; omega)))
  have hs := hb.size
  simp only [World.size_alloc] at hs
  refine each1_any B w0 n f K caps _ _ w1 hn (by omega) hb0 (by omega) (by omega) ?_ ?_ HK.out
  all_goals (rw [hb.cell (p := ⟨_, _, _⟩) (by simp <;> omega)]; simp [go_sem])

end Go.Proofs.YtdoklolinbmhpaaGreat
