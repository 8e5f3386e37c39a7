/- Gate, part VA: gates, their states and steps, as numbers; forces; what a step does. -/
import Derived.Test.YtdoklolinbmhpaaGreatUB
import Derived.Test.YtdoklolinbmhpaaGreatUG
import Derived.IntWalk
set_option linter.all false
namespace Go.Proofs.YtdoklolinbmhpaaGreat
open Go.RowKit

structure Sen where
  kind : Int
  at_ : Int
  tol : Int
  deriving Inhabited, DecidableEq
structure Gt where
  name : ByteArray
  kind : Int
  travel : Int
  own : List Int
  open_ : Int
  shut : Int
  height : Int
  float : Int
  push : Int
  slide : Int
  sealN : Int
  drive : Int
  brake : Int
  speed : Int
  gravity : Int
  use : Int
  pump : Int
  cap : Int
  slack : Int
  ss : List Sen
  wrong : Int
  deriving Inhabited
/-- Where a gate's lists lie. -/
structure GtP where
  oa : Option Addr
  oc : Nat
  sa : Option Addr
  sc : Nat
structure St where
  pos : Int
  charge : Int
  bolted : Bool
  deriving Inhabited, DecidableEq
structure Sp where
  order : Int
  power : Bool
  outer : Int
  inner : Int
  deriving Inhabited, DecidableEq

/-! ### The check of a gate -/
def headE (g : Gt) : Int := if nameB g.name.data.toList = false then 6 else if inB g.kind 1 3 = false then 2 else if inB g.travel 1 5000 = false then 7 else 0
def suitsB (kind f : Int) : Bool := if kind = 2 then decide (0 ≤ f) else if kind = 3 then decide (f ≤ 0) else decide (f = 0)
def ownE (g : Gt) (i : Nat) : Int := if inB (g.own.getD i 0) (-200000) 200000 = false then 7 else if suitsB g.kind (g.own.getD i 0) = false then 2 else 0
def ownP (g : Gt) : Int × Int := (firstAt 0 [mustP (inB g.own.length 2 16) 0 3, eachP (ownE g) 0 g.own.length]).2
def numB (g : Gt) : Bool :=
  inB g.open_ (-20000) 20000 && inB g.shut (-20000) 20000 && inB g.height 1 30000 && inB g.float 0 10000 && inB g.slide 0 10000 && inB g.push (-10000) 10000 && inB g.sealN 0 200000 && inB g.drive 0 200000 && inB g.brake 0 200000
    && inB g.speed 1 100 && inB g.gravity 1 100 && inB g.use 0 100000 && inB g.pump 0 100000 && inB g.cap 0 100000 && inB g.slack 0 ((IntKind.i64.wrap (g.travel - 1)).tdiv 2)
def numE (g : Gt) : Int := if numB g = true then 0 else 7
def senE (s : Sen) : Int := if inB s.kind 1 2 = false ∨ (s.kind = 1 ∧ s.at_ ≠ 0) then 2 else if inB s.at_ 0 5000 = false ∨ inB s.tol 0 5000 = false then 7 else 0
def senP (g : Gt) : Int × Int := (firstAt 0 [mustP (decide ((g.ss.length : Int) ≤ 6)) 0 3, eachP (fun i => senE (g.ss.getD i default)) 0 g.ss.length, mustP (inB g.wrong 0 g.ss.length) 0 7]).2
/-- Check: the part, the index in it, and the error. -/
def gtP (g : Gt) : Int × Int × Int := firstAt 0 [(0, headE g), ownP g, (0, numE g), senP g]
def gtE (g : Gt) : Int := (gtP g).2.2

/-- A gate without an error. -/
structure GtGood (g : Gt) : Prop where
  name : nameB g.name.data.toList = true
  kind : 1 ≤ g.kind ∧ g.kind ≤ 3
  travel : 1 ≤ g.travel ∧ g.travel ≤ 5000
  olen : 2 ≤ g.own.length ∧ g.own.length ≤ 16
  own : ∀ i, i < g.own.length → -200000 ≤ g.own.getD i 0 ∧ g.own.getD i 0 ≤ 200000
  open_ : -20000 ≤ g.open_ ∧ g.open_ ≤ 20000
  shut : -20000 ≤ g.shut ∧ g.shut ≤ 20000
  height : 1 ≤ g.height ∧ g.height ≤ 30000
  float : 0 ≤ g.float ∧ g.float ≤ 10000
  slide : 0 ≤ g.slide ∧ g.slide ≤ 10000
  push : -10000 ≤ g.push ∧ g.push ≤ 10000
  sealN : 0 ≤ g.sealN ∧ g.sealN ≤ 200000
  drive : 0 ≤ g.drive ∧ g.drive ≤ 200000
  brake : 0 ≤ g.brake ∧ g.brake ≤ 200000
  speed : 1 ≤ g.speed ∧ g.speed ≤ 100
  gravity : 1 ≤ g.gravity ∧ g.gravity ≤ 100
  use : 0 ≤ g.use ∧ g.use ≤ 100000
  pump : 0 ≤ g.pump ∧ g.pump ≤ 100000
  cap : 0 ≤ g.cap ∧ g.cap ≤ 100000
  slack : 0 ≤ g.slack ∧ g.slack ≤ (g.travel - 1).tdiv 2
  slen : g.ss.length ≤ 6
  ss : ∀ s ∈ g.ss, senE s = 0
  wrong : 0 ≤ g.wrong ∧ g.wrong ≤ g.ss.length
theorem firstAt_all : ∀ (l : List (Int × Int)) (k : Nat), (firstAt k l).2.2 = 0 ↔ ∀ p ∈ l, p.2 = 0
  | [], _ => by simp [firstAt]
  | (a, e) :: r, k => by
    unfold firstAt
    by_cases h : e = 0
    · rw [if_neg (by simp [h]), firstAt_all r (k + 1)]
      simp [h]
    · rw [if_pos h]
      simp [h]
theorem each_all0 {f : Nat → Int} : ∀ (n k : Nat), (eachP f k n).2 = 0 ↔ ∀ i, k ≤ i → i < k + n → f i = 0
  | 0, k => by simp [eachP]; intro i h1 h2; omega
  | n + 1, k => by
    unfold eachP
    by_cases h : f k = 0
    · rw [if_neg (by simp [h]), each_all0 n (k + 1)]
      constructor
      · intro hh i h1 h2
        by_cases e : i = k
        · subst e; exact h
        · exact hh i (by omega) (by omega)
      · intro hh i h1 h2; exact hh i (by omega) (by omega)
    · rw [if_pos h]
      constructor
      · intro hh; exact absurd hh h
      · intro hh; exact absurd (hh k (Nat.le_refl _) (by omega)) h
theorem must_zero {ok : Bool} {x y : Int} (hy : y ≠ 0) : (mustP ok x y).2 = 0 ↔ ok = true := by
  cases ok <;> simp [mustP, hy]
theorem gtGood {g : Gt} (h : gtE g = 0) : GtGood g := by
  unfold gtE gtP at h
  rw [firstAt_all] at h
  simp only [List.mem_cons, List.not_mem_nil, or_false, forall_eq_or_imp, forall_eq] at h
  unfold ownP senP at h
  rw [firstAt_all, firstAt_all] at h
  simp only [List.mem_cons, List.not_mem_nil, or_false, forall_eq_or_imp, forall_eq, each_all0] at h
  rw [must_zero (by decide), must_zero (by decide), must_zero (by decide)] at h
  simp only [inB_iff, decide_eq_true_eq] at h
  obtain ⟨h1, ⟨h2, h3⟩, h4, h5, h6, h7⟩ := h
  unfold headE at h1
  split at h1
  · cases h1
  rename_i n1
  split at h1
  · cases h1
  rename_i n2
  split at h1
  · cases h1
  rename_i n3
  have n4 : numB g = true := by
    unfold numE at h4
    by_cases hh : numB g = true
    · exact hh
    · rw [if_neg hh] at h4; exact absurd h4 (by decide)
  unfold numB at n4
  simp only [Bool.and_eq_true, inB_iff] at n4
  obtain ⟨⟨⟨⟨⟨⟨⟨⟨⟨⟨⟨⟨⟨⟨a1, a2⟩, a3⟩, a4⟩, a5⟩, a6⟩, a7⟩, a8⟩, a9⟩, a10⟩, a11⟩, a12⟩, a13⟩, a14⟩, a15⟩ := n4
  simp only [Bool.not_eq_false, inB_iff] at n1 n2 n3
  rw [IntWalk.i64_in (g.travel - 1) (by omega)] at a15
  refine ⟨n1, n2, n3, by omega, fun i hi => ?_, a1, a2, a3, a4, a5, a6, a7, a8, a9, a10, a11, a12, a13, a14, a15, by omega, fun s hs => ?_, h7⟩
  · have := h3 i (Nat.zero_le _) (by omega)
    unfold ownE at this
    split at this
    · cases this
    · rename_i n5; simpa only [Bool.not_eq_false, inB_iff] using n5
  · obtain ⟨i, hi, rfl⟩ := List.getElem_of_mem hs
    have := h6 i (Nat.zero_le _) (by omega)
    rwa [show g.ss.getD i default = g.ss[i] by simp [List.getD, hi]] at this

/-! ### Forces -/
theorem mul_bd {a b A B : Int} (h1 : -A ≤ a) (h2 : a ≤ A) (h3 : -B ≤ b) (h4 : b ≤ B) : -(A * B) ≤ a * b ∧ a * b ≤ A * B := by
  have hA : 0 ≤ A := by omega
  have hB : 0 ≤ B := by omega
  rcases Int.le_total 0 a with ha | ha <;> rcases Int.le_total 0 b with hb | hb
  · have h5 := Int.mul_le_mul h2 h4 hb hA
    have h6 := Int.mul_nonneg ha hb
    have h7 := Int.mul_nonneg hA hB
    omega
  · have h5 := Int.mul_le_mul h2 (show -b ≤ B by omega) (by omega) hA
    have h6 := Int.mul_nonneg ha (show 0 ≤ -b by omega)
    have h7 := Int.mul_nonneg hA hB
    rw [Int.mul_neg] at h5 h6
    omega
  · have h5 := Int.mul_le_mul (show -a ≤ A by omega) h4 hb hA
    have h6 := Int.mul_nonneg (show 0 ≤ -a by omega) hb
    have h7 := Int.mul_nonneg hA hB
    rw [Int.neg_mul] at h5 h6
    omega
  · have h5 := Int.mul_le_mul (show -a ≤ A by omega) (show -b ≤ B by omega) (by omega) hA
    have h6 := Int.mul_nonneg (show 0 ≤ -a by omega) (show 0 ≤ -b by omega)
    have h7 := Int.mul_nonneg hA hB
    rw [Int.neg_mul_neg] at h5 h6
    omega
/-- A mean of two numbers, rounded down. -/
def mixF (a b n r : Int) : Int := (a * (n - r) + b * r) / n
theorem mix_bd {a b n r M : Int} (ha : -M ≤ a ∧ a ≤ M) (hb : -M ≤ b ∧ b ≤ M) (hn : 1 ≤ n) (hr : 0 ≤ r ∧ r ≤ n) : (-M ≤ mixF a b n r ∧ mixF a b n r ≤ M) ∧ -(M * n) ≤ a * (n - r) + b * r ∧ a * (n - r) + b * r ≤ M * n := by
  have h1 : -(M * (n - r)) ≤ a * (n - r) ∧ a * (n - r) ≤ M * (n - r) := by
    have x := Int.mul_le_mul_of_nonneg_right ha.2 (show 0 ≤ n - r by omega)
    have y := Int.mul_le_mul_of_nonneg_right ha.1 (show 0 ≤ n - r by omega)
    rw [Int.neg_mul] at y
    exact ⟨y, x⟩
  have h2 : -(M * r) ≤ b * r ∧ b * r ≤ M * r := by
    have x := Int.mul_le_mul_of_nonneg_right hb.2 hr.1
    have y := Int.mul_le_mul_of_nonneg_right hb.1 hr.1
    rw [Int.neg_mul] at y
    exact ⟨y, x⟩
  have h3 : M * (n - r) + M * r = M * n := by rw [← Int.mul_add]; congr 1; omega
  have hlo : -(M * n) ≤ a * (n - r) + b * r := by omega
  have hhi : a * (n - r) + b * r ≤ M * n := by omega
  refine ⟨⟨?_, ?_⟩, hlo, hhi⟩
  · unfold mixF; exact (Int.le_ediv_iff_mul_le (by omega)).2 (by rw [Int.neg_mul]; exact hlo)
  · unfold mixF; exact Int.ediv_le_of_le_mul (by omega) hhi
def ownF (g : Gt) (pos : Int) : Int :=
  if pos = g.travel then g.own.getD (g.own.length - 1) 0
  else mixF (g.own.getD (pos * ((g.own.length : Int) - 1) / g.travel).toNat 0) (g.own.getD ((pos * ((g.own.length : Int) - 1) / g.travel).toNat + 1) 0) g.travel (pos * ((g.own.length : Int) - 1) % g.travel)
def edgeF (g : Gt) (pos : Int) : Int := mixF g.open_ g.shut g.travel pos
def belowF (g : Gt) (pos lv : Int) : Int := min (max (lv - edgeF g pos) 0) g.height
def floatF (g : Gt) (pos o i : Int) : Int := if g.kind = 3 then g.float * belowF g pos (min o i) / 1000 else -(g.float * belowF g pos (min o i) / 1000)
def closeF (g : Gt) (pos o i : Int) : Int := ownF g pos + floatF g pos o i + g.push * (o - i) / 1000
def frictF (g : Gt) (pos o i : Int) : Int := g.sealN + upq (g.slide * (max o i - min o i) * belowF g pos (max o i)) 1000000

/-! ### Steps -/
def drivenF (g : Gt) (charge cm : Int) : Int × Int :=
  let c := if 0 < g.use then min cm (charge * 100 / g.use) else cm
  (c, upq (c * g.use) 100)
def followF (g : Gt) (s : St) (t : Sp) (force left : Int) : Int × Int :=
  if frictF g s.pos t.outer t.inner < force then (min g.gravity left, 0)
  else if t.power = true ∧ frictF g s.pos t.outer t.inner < force + g.drive then drivenF g s.charge (min g.speed left) else (0, 0)
def closesF (g : Gt) (s : St) (t : Sp) : Int × Int := followF g s t (closeF g s.pos t.outer t.inner) (g.travel - s.pos)
def opensF (g : Gt) (s : St) (t : Sp) : Int × Int := let b := followF g s t (-closeF g s.pos t.outer t.inner) s.pos; (-b.1, b.2)
def holdsF (g : Gt) (s : St) (t : Sp) : Int × Int :=
  if g.brake + frictF g s.pos t.outer t.inner < closeF g s.pos t.outer t.inner then (min g.gravity (g.travel - s.pos), 0)
  else if g.brake + frictF g s.pos t.outer t.inner < -closeF g s.pos t.outer t.inner then (-min g.gravity s.pos, 0) else (0, 0)
def actF (g : Gt) (s : St) (t : Sp) : Int × Int := if s.bolted = true then (0, 0) else if t.order = 1 then closesF g s t else if t.order = 2 then opensF g s t else holdsF g s t
/-- Why an order is refused, if the gate is locked for a reason. -/
def refF (s : St) (t : Sp) (lock : Int) : Int := if t.order = 0 then 0 else if s.bolted = true then 130 else lock
def heldT (t : Sp) (r : Int) : Sp := if r = 0 then t else { t with order := 0 }
/-- A step: the state after it; why it was refused, by how much the gate moved, and the oil. -/
def stepF (g : Gt) (s : St) (t : Sp) (lock : Int) : St × Int × Int × Int :=
  let r := refF s t lock
  let d := actF g s (heldT t r)
  (⟨s.pos + d.1, if t.power = true then min (s.charge - d.2 + g.pump) g.cap else s.charge - d.2, s.bolted⟩, r, d.1, d.2)
/-- The errors of a state and of a step. -/
def stE (g : Gt) (s : St) : Int := if inB s.pos 0 g.travel = false ∨ inB s.charge 0 g.cap = false then 7 else 0
def ordE (t : Sp) : Int := if inB t.order 0 2 = false then 2 else if inB t.outer (-20000) 20000 = false ∨ inB t.inner (-20000) 20000 = false then 7 else 0
def spE (g : Gt) (s : St) (t : Sp) : Int := if stE g s ≠ 0 then stE g s else ordE t
end Go.Proofs.YtdoklolinbmhpaaGreat
