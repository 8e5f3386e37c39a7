/- Gate, part WB: sets, states, steps and ships in memory. -/
import Derived.Test.YtdoklolinbmhpaaGreatWM
set_option linter.all false
namespace Go.Proofs.YtdoklolinbmhpaaGreat
open Go.RowKit

def ruL (r : Ru) : List Value := [.int .i64 r.gate, .int .i64 r.other, .int .i64 r.lo, .int .i64 r.hi]
def moL (m : Int × Int × Int) : List Value := [.int .i64 m.1, .int .i64 m.2.1, .int .i64 m.2.2]
structure GatesOk (w : World) (a : Option Addr) (gs : List Gt) (ps : Nat → GtP) : Prop where
  at_ : RowsL (fun i g => gtL g (ps i)) 21 w a gs
  ok : ∀ i (h : i < gs.length), GtOk w (ps i) gs[i]
theorem GatesOk.later {w w' : World} {a : Option Addr} {gs : List Gt} {ps : Nat → GtP} {B : Nat} (h : GatesOk w a gs ps) (hb : Below B w w') (hB : w.heap.size ≤ B) : GatesOk w' a gs ps :=
  ⟨h.at_.later hb hB, fun i hi => (h.ok i hi).later hb hB⟩
/-- A row of so many cells, of a list that is not empty. -/
theorem RowsL.row {α : Type} {L : Nat → α → List Value} {size : Nat} {w : World} {a : Option Addr} {l : List α} (h : RowsL L size w a l) (hne : 0 < l.length) :
    ∃ b o, a = some ⟨b, o, none⟩ ∧ b < w.heap.size ∧ ∀ i (h : i < l.length), w.rangeAt b (o + i * size) (L i l[i]) := by
  rcases h with h | h
  · rw [h] at hne; simp at hne
  · exact h
structure SetV where
  ga : Option Addr
  gs : List Gt
  gc : Nat
  ps : Nat → GtP
  ra : Option Addr
  rs : List Ru
  rc : Nat
structure SetOk (w : World) (z : SetV) : Prop where
  gates : GatesOk w z.ga z.gs z.ps
  glen : z.gs.length ≤ z.gc ∧ z.gs.length ≤ 140737488355328
  rules : RowsL (fun _ r => ruL r) 4 w z.ra z.rs
  rlen : z.rs.length ≤ z.rc ∧ z.rs.length ≤ 140737488355328
  ruI : ∀ r ∈ z.rs, I64 r.gate ∧ I64 r.other ∧ I64 r.lo ∧ I64 r.hi
theorem SetOk.later {w w' : World} {z : SetV} {B : Nat} (h : SetOk w z) (hb : Below B w w') (hB : w.heap.size ≤ B) : SetOk w' z :=
  ⟨h.gates.later hb hB, h.glen, h.rules.later hb hB, h.rlen, h.ruI⟩
end Go.Proofs.YtdoklolinbmhpaaGreat
