/- Gate, part VB: gates, states and steps in memory. -/
import Derived.Test.YtdoklolinbmhpaaGreatVA
import Derived.Deep.MidRow
set_option linter.all false
namespace Go.Proofs.YtdoklolinbmhpaaGreat
open Go.RowKit

def I64 (x : Int) : Prop := -9223372036854775808 ≤ x ∧ x ≤ 9223372036854775807
instance decI64 (x : Int) : Decidable (I64 x) := inferInstanceAs (Decidable (_ ∧ _))
/-- Ints in memory, from an address on, if there are any. -/
def IntsAt (w : World) (a : Option Addr) (l : List Int) : Prop :=
  l = [] ∨ ∃ b o, a = some ⟨b, o, none⟩ ∧ b < w.heap.size ∧ ∀ i (h : i < l.length), w.cell? ⟨b, o + i, none⟩ = some (.int .i64 l[i])
theorem IntsAt.later {w w' : World} {a : Option Addr} {l : List Int} {B : Nat} (h : IntsAt w a l) (hb : Below B w w') (hB : w.heap.size ≤ B) : IntsAt w' a l := by
  rcases h with h | ⟨b, o, ha, hs, hc⟩
  · exact .inl h
  · exact .inr ⟨b, o, ha, Nat.lt_of_lt_of_le hs hb.size, fun i hi => (hb.cell (p := ⟨b, o + i, none⟩) (by show b < B; omega)).trans (hc i hi)⟩
/-- Rows of so many cells in memory, from an address on, if there are any. -/
def RowsL {α : Type} (L : Nat → α → List Value) (size : Nat) (w : World) (a : Option Addr) (l : List α) : Prop :=
  l = [] ∨ ∃ b o, a = some ⟨b, o, none⟩ ∧ b < w.heap.size ∧ ∀ i (h : i < l.length), w.rangeAt b (o + i * size) (L i l[i])
theorem range_later {w w' : World} {b o B : Nat} {cs : List Value} (h : w.rangeAt b o cs) (hb : Below B w w') (hB : b < B) : w'.rangeAt b o cs :=
  fun j v hv => (hb.cell (p := ⟨b, o + j, none⟩) hB).trans (h j v hv)
theorem RowsL.later {α : Type} {L : Nat → α → List Value} {size : Nat} {w w' : World} {a : Option Addr} {l : List α} {B : Nat} (h : RowsL L size w a l) (hb : Below B w w') (hB : w.heap.size ≤ B) : RowsL L size w' a l := by
  rcases h with h | ⟨b, o, ha, hs, hc⟩
  · exact .inl h
  · exact .inr ⟨b, o, ha, Nat.lt_of_lt_of_le hs hb.size, fun i hi => range_later (hc i hi) hb (by omega)⟩
theorem range_alloc (w : World) (cs : List Value) (T : TypeId) : (w.alloc (.cells cs.toArray T)).rangeAt w.heap.size 0 cs := fun j v hv => by
  rw [cell_of_row _ w.heap.size _ _ T (0, 0) (heap_alloc_new w _)]
  simpa using hv

def senL (s : Sen) : List Value := [.int .i64 s.kind, .int .i64 s.at_, .int .i64 s.tol]
def gtL (g : Gt) (p : GtP) : List Value :=
  [.string g.name, .int .i64 g.kind, .int .i64 g.travel, .slice p.oa g.own.length p.oc, .int .i64 g.open_, .int .i64 g.shut, .int .i64 g.height, .int .i64 g.float, .int .i64 g.push, .int .i64 g.slide, .int .i64 g.sealN,
    .int .i64 g.drive, .int .i64 g.brake, .int .i64 g.speed, .int .i64 g.gravity, .int .i64 g.use, .int .i64 g.pump, .int .i64 g.cap, .int .i64 g.slack, .slice p.sa g.ss.length p.sc, .int .i64 g.wrong]
def stL (s : St) : List Value := [.int .i64 s.pos, .int .i64 s.charge, .bool s.bolted]
def spL (t : Sp) : List Value := [.int .i64 t.order, .bool t.power, .int .i64 t.outer, .int .i64 t.inner]
def mL (g : Gt) (p : GtP) (s : St) (t : Sp) : List Value := gtL g p ++ (stL s ++ spL t)
def SensAt (w : World) (a : Option Addr) (l : List Sen) : Prop := RowsL (fun _ s => senL s) 3 w a l
structure GtWf (g : Gt) (p : GtP) : Prop where
  name : g.name.size ≤ maxLen
  nums : I64 g.kind ∧ I64 g.travel ∧ I64 g.open_ ∧ I64 g.shut ∧ I64 g.height ∧ I64 g.float ∧ I64 g.push ∧ I64 g.slide ∧ I64 g.sealN ∧ I64 g.drive ∧ I64 g.brake ∧ I64 g.speed ∧ I64 g.gravity ∧ I64 g.use ∧ I64 g.pump ∧ I64 g.cap ∧ I64 g.slack ∧ I64 g.wrong
  olen : g.own.length ≤ p.oc
  ocap : g.own.length ≤ 140737488355328
  slen : g.ss.length ≤ p.sc
  scap : g.ss.length ≤ 140737488355328
  own : ∀ x ∈ g.own, I64 x
  ss : ∀ s ∈ g.ss, I64 s.kind ∧ I64 s.at_ ∧ I64 s.tol
/-- A gate's lists in memory. -/
structure GtOk (w : World) (p : GtP) (g : Gt) : Prop where
  wf : GtWf g p
  own : IntsAt w p.oa g.own
  ss : SensAt w p.sa g.ss
theorem GtOk.later {w w' : World} {p : GtP} {g : Gt} {B : Nat} (h : GtOk w p g) (hb : Below B w w') (hB : w.heap.size ≤ B) : GtOk w' p g :=
  ⟨h.wf, h.own.later hb hB, h.ss.later hb hB⟩
end Go.Proofs.YtdoklolinbmhpaaGreat
