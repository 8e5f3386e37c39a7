/- Tide, part SC: gauges in a row; what they say, one after the other: speaking. -/
import Derived.Test.YtblneiegekdnjaaSB
import Derived.Test.YtblneiegekdnjaaZQ
import Derived.RangeFuncNested
import Derived.RangeFuncBound
import Derived.RangeFuncCalls
import Derived.RangeFuncLeaves
import Derived.RangeFuncBox
import Derived.Shelf.Abstract
import Derived.Shelf.RegionOpen
import Derived.OwnWalkIn
import Derived.TacticsInMore
import Derived.LoopNIn
import Derived.LoopIn
import Derived.Maps.AppendAt
set_option linter.all false
namespace Go.Proofs.Ytblneiegekdnjaa
open Go.RowKit Go.Shelf
attribute [local go_sem] Oper.semAt_some

/-- A gauge's five cells in a row. -/
structure GauAt (w : World) (b o : Nat) (g : Gau) (p : GPos) : Prop where
  c0 : w.cell? ⟨b, o, none⟩ = some (.string g.name)
  c1 : w.cell? ⟨b, o + 1, none⟩ = some (.int .i64 g.err)
  c2 : w.cell? ⟨b, o + 2, none⟩ = some (.int .i64 g.rate)
  c3 : w.cell? ⟨b, o + 3, none⟩ = some (.slice p.da g.ds.length p.dc)
  c4 : w.cell? ⟨b, o + 4, none⟩ = some (.slice p.ra g.rs.length p.rc)
theorem GauAt.later {w w' : World} {b o B : Nat} {g : Gau} {p : GPos} (h : GauAt w b o g p) (hb : Below B w w') (hB : b < B) : GauAt w' b o g p :=
  have e : ∀ o, w'.cell? ⟨b, o, none⟩ = w.cell? ⟨b, o, none⟩ := fun o => hb.cell (p := ⟨b, o, none⟩) hB
  ⟨(e _).trans h.c0, (e _).trans h.c1, (e _).trans h.c2, (e _).trans h.c3, (e _).trans h.c4⟩
/-- Gauges in a row, from an address on, if there are any. -/
def GausAt (w : World) (a : Option Addr) (gs : List Gau) : Prop :=
  gs = [] ∨ ∃ (b o : Nat) (ps : Nat → GPos), a = some ⟨b, o, none⟩ ∧ b < w.heap.size ∧ ∀ i (h : i < gs.length), GauAt w b (o + i * 5) gs[i] (ps i) ∧ GauOk w (ps i) gs[i]
theorem GausAt.later {w w' : World} {a : Option Addr} {gs : List Gau} {B : Nat} (h : GausAt w a gs) (hb : Below B w w') (hB : w.heap.size ≤ B) : GausAt w' a gs := by
  rcases h with h | ⟨b, o, ps, ha, hs, hc⟩
  · exact .inl h
  · exact .inr ⟨b, o, ps, ha, Nat.lt_of_lt_of_le hs hb.size, fun i hi => ⟨(hc i hi).1.later hb (by omega), (hc i hi).2.later hb hB⟩⟩

def encV (v : Voice) : Array Value := #[.agg #[.int .i64 v.1, .int .i64 v.2.1, .int .i64 v.2.2]]
/-- says, in the words of the walk. -/
theorem saysVal' (g : Gau) (p : GPos) (t now : Int) (s : (Int × Int) × Int) (w : World) (hok : GauOk w p g) (hg : GauGood g) (ht : 0 ≤ t ∧ t ≤ 200000) (hs : sayP g t now = s) :
    Calls Try.prog 72 #[.agg #[.string g.name, .int .i64 g.err, .int .i64 g.rate, .slice p.da g.ds.length p.dc, .slice p.ra g.rs.length p.rc], .int .i64 t, .int .i64 now] w
      fun e w' => e = .returned (.tuple #[.agg #[.int .i64 s.1.1, .int .i64 s.1.2], .int .i64 s.2]) ∧ Below w.heap.size w w' := by
  rw [← hs]; exact says_any g p t now w hok hg ht

theorem abides_below {β : Type} {B : Nat} {J : β → World → Prop} (hJ : AbidesFrom B J) {s : β} {W W' : World} (hs : J s W) (hb : Below W.heap.size W W') : J s W' :=
  hJ s W W' none hs (grown_of_below (row := none) hb) (fun r e => by cases e)

/-- What a round keeps: all below n₀, and the three blocks behind it. -/
structure KeepB (n₀ : Nat) (A B : World) : Prop where
  low : Below n₀ A B
  box : ∀ i, n₀ < i → i < n₀ + 4 → B.heap[i]? = A.heap[i]?
theorem KeepB.refl (n₀ : Nat) (A : World) : KeepB n₀ A A := ⟨Below.refl _ _, fun _ _ _ => rfl⟩
theorem KeepB.trans {n₀ : Nat} {A B C : World} (h : KeepB n₀ A B) (k : KeepB n₀ B C) : KeepB n₀ A C := ⟨h.low.trans k.low, fun i h1 h2 => (k.box i h1 h2).trans (h.box i h1 h2)⟩
theorem KeepB.of_below {n₀ B : Nat} {A C : World} (h : Below B A C) (hB : n₀ + 4 ≤ B) : KeepB n₀ A C := ⟨h.mono (by omega), fun i _ h2 => h.block i (by omega)⟩
theorem KeepB.cell {n₀ : Nat} {A B : World} (h : KeepB n₀ A B) {i : Nat} (h1 : n₀ < i) (h2 : i < n₀ + 4) (o : Nat) : B.cell? ⟨i, o, none⟩ = A.cell? ⟨i, o, none⟩ := World.cell?_of_block (a := ⟨i, o, none⟩) (h.box i h1 h2)
theorem KeepB.put {n₀ : Nat} {w : World} (hn : n₀ + 4 ≤ w.heap.size) (W : World) (l : Nat) (o o' : Obj) (hl : w.heap.size ≤ l) (h : W.heap[l]? = some o) (hc : o.isCells = false) (hw : o.isWalk = false) : KeepB n₀ W (W.putObj l o') :=
  KeepB.of_below (belowK_b (n₀ := n₀ + 4) (w := w) hn W l o o' hl h hc hw) (Nat.le_refl _)

set_option maxRecDepth 100000 in
set_option maxHeartbeats 8000000 in
/-- speaking's function value: for every loop's body that keeps what lay below n₀. -/
theorem speak1_in (n : Nat) (hn : 1 ≤ n) (l n₀ cap : Nat) (a : Option Addr) (gs : List Gau) (t now : Int) (hlen : gs.length ≤ 8) (hgood : ∀ i (h : i < gs.length), GauGood gs[i]) (ht : 0 ≤ t ∧ t ≤ 200000) (J Jx : List Voice → World → Prop) (hJ : ∀ (s : List Voice) (W W' : World), J s W → Below W.heap.size W W' → J s W')
    (hY : ∀ pre x W, J pre W → pre.length < gs.length → YieldAt Fence.wide (n - 1) Try.prog l (encV x) W fun e W' =>
      (e = .returned (.bool true) ∧ J (pre ++ [x]) W' ∧ KeepB n₀ W W') ∨ (e = .returned (.bool false) ∧ Jx (pre ++ [x]) W'))
    (W : World) (h0 : W.cell? ⟨n₀ + 1, 0, none⟩ = some (.slice a gs.length cap)) (h1 : W.cell? ⟨n₀ + 2, 0, none⟩ = some (.int .i64 t)) (h2 : W.cell? ⟨n₀ + 3, 0, none⟩ = some (.int .i64 now)) (hn₀ : n₀ + 4 ≤ W.heap.size)
    (w0 : World) (hw0 : w0.heap.size ≤ n₀) (hwW : Below w0.heap.size w0 W) (hgs : GausAt w0 a gs) (hj0 : J [] W) :
    CallsIn Fence.wide n Try.prog 120 #[.func (.yield l) #[] #[], .pointer (some ⟨n₀ + 1, 0, none⟩), .pointer (some ⟨n₀ + 2, 0, none⟩), .pointer (some ⟨n₀ + 3, 0, none⟩)] W fun e W' => (∃ v, e = .returned v) ∧
      ((∃ ys, ys = voiceL gs t now gs.length ∧ J ys W') ∨ (∃ pre, True ∧ Jx pre W')) := by
  have HG := hid hgood; have HJ := hid hJ; have HYd := hid hY; have HGs := hid hgs
  clear hgood hJ hY hgs
  refine callsIn_of_wp Try.func120 rfl trivial ?_ rfl
  simp only [Try.ntmps120, List.size_toArray, List.length_cons, List.length_nil, Nat.reduceAdd, Nat.reduceSub, Array.replicate_succ, Array.replicate_zero, List.push_toArray, List.append_toArray, List.nil_append, List.cons_append]
  gi_wp2
  gi_loopw [5, 6, 7, 8, 11] (fun a5 a6 a7 a8 i wr => ∃ k : Nat, k ≤ gs.length ∧ i = .int .i64 k ∧ Hid (J (voiceL gs t now k) wr) ∧ KeepB n₀ W wr) (fun _ _ _ _ i _ => gs.length - (intOf i).toNat)
  case atStart => exact ⟨0, Nat.zero_le _, rfl, hid hj0, KeepB.refl _ _⟩
  case round =>
    obtain ⟨k, hk, rfl, hjk, hbw⟩ := hrel
    by_cases hlt : k < gs.length
    · have hBw : Below w0.heap.size w0 wr := hwW.trans (hbw.low.mono hw0)
      rcases HGs.out.later hBw (Nat.le_refl _) with h0 | ⟨b, o, ps, rfl, hs, hc⟩
      · rw [h0] at hlt; simp at hlt
      obtain ⟨⟨c0, c1, c2, c3, c4⟩, hok⟩ := hc k hlt
      have hgk := HG.out k hlt
      have b1 := (hbw.cell (i := n₀ + 2) (by omega) (by omega) 0).trans h1
      have b2 := (hbw.cell (i := n₀ + 3) (by omega) (by omega) 0).trans h2
      have hkI : (k : Int) < (gs.length : Int) := by omega
      have hvs := hid (show voiceL gs t now (k + 1) = voiceL gs t now k ++ (if (sayP gs[k] t now).2 = 0 then [((sayP gs[k] t now).1.1, (sayP gs[k] t now).1.2, (k : Int))] else []) by
        rw [voiceL]; simp only [List.getD, hlt, getElem?_pos, Option.getD_some])
      have HOk := hid hok; have HGk := hid hgk
      clear hc hok hgk
      generalize gs[k] = g at *
      generalize ps k = p at *
      obtain ⟨s, hs'⟩ : ∃ s, sayP g t now = s := ⟨_, rfl⟩
      have HS := hid hs'
      have hvs2 := hvs.out
      rw [hs'] at hvs2
      have HVs := hid hvs2
      clear hvs2 hvs hs'
      have hsz : n₀ + 4 ≤ wr.heap.size := Nat.le_trans hn₀ hbw.low.size
      have lt1 : n₀ + 2 < wr.heap.size := by omega
      have lt2 : n₀ + 3 < wr.heap.size := by omega
      have ne1 : n₀ + 2 ≠ wr.heap.size := by omega
      have ne2 : n₀ + 3 ≠ wr.heap.size := by omega
      gi_wp2
      refine ⟨trivial, ?_⟩
      refine (callsIn_wide.2 (saysVal' g p t now s _ (HOk.out.later ((Below.refl _ _).alloc (Nat.le_refl _) _) (Nat.le_refl _)) HGk.out ht HS.out)).mono ?_
      rintro e W2 ⟨rfl, B2⟩
      have l2 : wr.heap.size < W2.heap.size := by have := B2.size; simp at this; omega
      have BX : Below wr.heap.size wr W2 := ((Below.refl _ _).alloc (Nat.le_refl _) _).trans (B2.mono (by simp))
      have hJ2 := HJ.out _ _ _ hjk.out (BX.alloc (by omega) (.cells #[.int .i64 s.1.1, .int .i64 s.1.2] 116))
      have B3 : KeepB n₀ W (W2.alloc (.cells #[.int .i64 s.1.1, .int .i64 s.1.2] 116)) := hbw.trans (KeepB.of_below (BX.alloc (by omega) _) hsz)
      clear B2 c0 c1 c2 c3 c4 b1 b2 lt1 lt2 ne1 ne2 HOk HGk HS
      by_cases hz : s.2 = 0
      · have hz' : (s.2 == 0) = true := by simp [hz]
        have hvs := HVs.out
        rw [if_pos hz] at hvs
        have HV := hid hvs
        clear HVs hvs hz
        obtain ⟨fn, tmps, assign, body, hy, hR⟩ := HYd.out _ (s.1.1, s.1.2, (k : Int)) _ hJ2 (by have := voiceL_len gs t now k; omega)
        simp only [encV] at hy
        gi_wp2
        refine hR.mono ?_
        rintro e W3 (⟨rfl, hJ3, hk3⟩ | ⟨rfl, hJx3⟩)
        · gi_wp2
          refine ⟨⟨k + 1, by omega, by go_num, hid (by rw [HV.out]; exact hJ3), B3.trans hk3⟩, by simp [intOf]; omega⟩
        · gi_wp2
          refine bodyPost_ret (results_none rfl _ _ _) rfl ?_
          exact ⟨⟨_, rfl⟩, .inr ⟨_, trivial, hJx3⟩⟩
      · have hz' : (s.2 == 0) = false := by simp [hz]
        have hvs := HVs.out
        rw [if_neg hz, List.append_nil] at hvs
        have HV := hid hvs
        clear HVs hvs hz
        gi_wp2
        refine ⟨fun _ h => (by cases h), ?_⟩
        gi_wp2
        refine ⟨⟨k + 1, by omega, by go_num, hid (by rw [HV.out]; exact hJ2), B3⟩, by simp [intOf]; omega⟩
    · obtain rfl : k = gs.length := by omega
      gi_wp2
      go_end0
      exact ⟨⟨_, rfl⟩, .inl ⟨_, rfl, hjk.out⟩⟩

/-- speaking: the gauges and the ticks are boxed; the function value captures the boxes. -/
theorem speaking_any (a : Option Addr) (n cap : Nat) (t now : Int) (w : World) :
    Calls Try.prog 110 #[.slice a n cap, .int .i64 t, .int .i64 now] w fun e w' => e = .returned (.func (.func 120) #[] #[.pointer (some ⟨w.heap.size, 0, none⟩), .pointer (some ⟨w.heap.size + 1, 0, none⟩), .pointer (some ⟨w.heap.size + 2, 0, none⟩)]) ∧
      w' = ((w.alloc (.cells #[.slice a n cap] 48)).alloc (.cells #[.int .i64 t] 3)).alloc (.cells #[.int .i64 now] 3) := by
  go_enter Try.func110, Try.ntmps110
  go_wp2
  go_ret
  exact ⟨rfl, rfl⟩

/-- What speaking returns hands on all that the gauges say. -/
theorem speak_stops (n : Nat) (hn : 1 ≤ n) (n₀ cap : Nat) (a : Option Addr) (gs : List Gau) (t now : Int) (hlen : gs.length ≤ 8) (hgood : ∀ i (h : i < gs.length), GauGood gs[i]) (ht : 0 ≤ t ∧ t ≤ 200000) (w : World)
    (h0 : w.cell? ⟨n₀ + 1, 0, none⟩ = some (.slice a gs.length cap)) (h1 : w.cell? ⟨n₀ + 2, 0, none⟩ = some (.int .i64 t)) (h2 : w.cell? ⟨n₀ + 3, 0, none⟩ = some (.int .i64 now)) (hn₀ : n₀ + 4 ≤ w.heap.size)
    (w0 : World) (hw0 : w0.heap.size ≤ n₀) (hwW : Below w0.heap.size w0 w) (hgs : GausAt w0 a gs) :
    SeqStopsK Fence.wide n Try.prog 120 #[.pointer (some ⟨n₀ + 1, 0, none⟩), .pointer (some ⟨n₀ + 2, 0, none⟩), .pointer (some ⟨n₀ + 3, 0, none⟩)] encV (KeepB n₀) (fun ys => ys = voiceL gs t now gs.length) (fun _ => True) gs.length w := fun l J Jx W hW hJ _ hY hj0 =>
  speak1_in n hn l n₀ cap a gs t now hlen hgood ht J Jx (fun s W1 W2 hs hb => hJ s W1 W2 none hs (grown_of_below (row := none) (hb.mono (Nat.le_refl _))) (fun r e => by cases e)) hY W
    ((hW.cell (p := ⟨n₀ + 1, 0, none⟩) (by show n₀ + 1 < _; omega)).trans h0) ((hW.cell (p := ⟨n₀ + 2, 0, none⟩) (by show n₀ + 2 < _; omega)).trans h1) ((hW.cell (p := ⟨n₀ + 3, 0, none⟩) (by show n₀ + 3 < _; omega)).trans h2) (Nat.le_trans hn₀ hW.size)
    w0 hw0 (hwW.trans (hW.mono (by omega))) hgs hj0
end Go.Proofs.Ytblneiegekdnjaa
