/- Gate, part YD: the positions with which sensors agree, one after the other: agreed; Where. -/
import Derived.Test.YtpgggffcpcjahaaYB
import Derived.Test.YtpgggffcpcjahaaYC
import Derived.RangeFuncNested
import Derived.RangeFuncKeeps
import Derived.RangeFuncBound
import Derived.RangeFuncCalls
import Derived.RangeFuncLeaves
import Derived.RangeFuncBox
import Derived.Shelf.Abstract
import Derived.Shelf.RegionOpen
import Derived.OwnWalkIn
import Derived.TacticsInMore
import Derived.LoopNIn
import Derived.LoopIn
import Derived.Maps.AppendAt
import Derived.Lib.QuietBelowIn
import Derived.Deep.Onto
set_option linter.all false
namespace Go.Proofs.Ytpgggffcpcjahaa
open Go.RowKit Go.Shelf Go.Sort
attribute [local go_sem] Oper.semAt_some

/-- What a round keeps: all below n₀, and the two blocks behind it. -/
structure KeepF (n₀ : Nat) (A B : World) : Prop where
  low : Below n₀ A B
  box : ∀ i, n₀ < i → i < n₀ + 3 → B.heap[i]? = A.heap[i]?
theorem KeepF.refl (n₀ : Nat) (A : World) : KeepF n₀ A A := ⟨Below.refl _ _, fun _ _ _ => rfl⟩
theorem KeepF.trans {n₀ : Nat} {A B C : World} (h : KeepF n₀ A B) (k : KeepF n₀ B C) : KeepF n₀ A C := ⟨h.low.trans k.low, fun i h1 h2 => (k.box i h1 h2).trans (h.box i h1 h2)⟩
theorem KeepF.of_below {n₀ B : Nat} {A C : World} (h : Below B A C) (hB : n₀ + 3 ≤ B) : KeepF n₀ A C := ⟨h.mono (by omega), fun i _ h2 => h.block i (by omega)⟩
theorem KeepF.cell {n₀ : Nat} {A B : World} (h : KeepF n₀ A B) {i : Nat} (h1 : n₀ < i) (h2 : i < n₀ + 3) (o : Nat) : B.cell? ⟨i, o, none⟩ = A.cell? ⟨i, o, none⟩ := World.cell?_of_block (a := ⟨i, o, none⟩) (h.box i h1 h2)
theorem KeepF.range {n₀ : Nat} {A B : World} (h : KeepF n₀ A B) {i : Nat} (h1 : n₀ < i) (h2 : i < n₀ + 3) {cs : List Value} (hr : A.rangeAt i 0 cs) : B.rangeAt i 0 cs := fun j v hv => (h.cell h1 h2 _).trans (hr j v hv)
theorem KeepF.put {n₀ : Nat} {w : World} (hn : n₀ + 3 ≤ w.heap.size) (W : World) (l : Nat) (o o' : Obj) (hl : w.heap.size ≤ l) (h : W.heap[l]? = some o) (hc : o.isCells = false) (hw : o.isWalk = false) : KeepF n₀ W (W.putObj l o') :=
  KeepF.of_below (belowK_b (n₀ := n₀ + 3) (w := w) hn W l o o' hl h hc hw) (Nat.le_refl _)
def encPos (x : Int) : Array Value := #[.int .i64 x]
theorem cntAg_succ (ss : List Sen) (rs : List Int) (x : Int) {k : Nat} {s : Sen} {r : Int} {y : Bool} (hs : ss.getD k default = s) (hr : rs.getD k 0 = r) (hy : agB s r x = y) : cntAg ss rs x (k + 1) = cntAg ss rs x k + (if y = true then 1 else 0) := by
  rw [← hy, ← hs, ← hr]; rfl
set_option maxRecDepth 100000 in
set_option maxHeartbeats 8000000 in
/-- agreed's function value: for every loop's body that keeps what lay below n₀. -/
theorem ag1_in (n : Nat) (hn : 1 ≤ n) (l n₀ mc N : Nat) (g : Gt) (p : GtP) (ra : Option Addr) (rs : List Int) (hg : GtGood g) (hN : (N : Int) = g.travel + 1) (hrl : rs.length = g.ss.length) (J Jx : List Int → World → Prop) (hJ : ∀ (s : List Int) (W W' : World), J s W → Below W.heap.size W W' → J s W')
    (hY : ∀ pre x W, J pre W → pre.length < N → YieldAt Fence.wide (n - 1) Try.prog l (encPos x) W fun e W' =>
      (e = .returned (.bool true) ∧ J (pre ++ [x]) W' ∧ KeepF n₀ W W') ∨ (e = .returned (.bool false) ∧ Jx (pre ++ [x]) W'))
    (W : World) (h0 : W.rangeAt (n₀ + 1) 0 (gtL g p)) (h1 : W.cell? ⟨n₀ + 2, 0, none⟩ = some (.slice ra rs.length mc)) (hn₀ : n₀ + 3 ≤ W.heap.size)
    (w0 : World) (hw0 : w0.heap.size ≤ n₀) (hwW : Below w0.heap.size w0 W) (hss : SensAt w0 p.sa g.ss) (hra : IntsAt w0 ra rs) (hj0 : J [] W) :
    CallsIn Fence.wide n Try.prog 107 #[.func (.yield l) #[] #[], .pointer (some ⟨n₀ + 1, 0, none⟩), .pointer (some ⟨n₀ + 2, 0, none⟩)] W fun e W' => (∃ v, e = .returned v) ∧
      ((∃ ys, ys = posL g rs N ∧ J ys W') ∨ (∃ pre, True ∧ Jx pre W')) := by
  obtain ⟨sa, hsa⟩ : ∃ sa, p.sa = sa := ⟨_, rfl⟩
  rw [hsa] at hss
  have HSa := hid hsa
  clear hsa
  have HG := hid hg; have HJ := hid hJ; have HYd := hid hY; have HSs := hid hss; have HRa := hid hra; have HRl := hid hrl
  have htr := hg.travel
  have hsl := hg.slen
  have hwr := hg.wrong
  have HSl := hid hsl; have HTr := hid htr; have HNn := hid hN; have HWr := hid hwr
  have v1 : IntKind.i64.wrap (g.travel + 1) = (N : Int) := by rw [hN]; exact IntWalk.i64_in _ (by omega)
  have v2 : IntKind.i64.wrap ((g.ss.length : Int) - g.wrong) = (g.ss.length : Int) - g.wrong := IntWalk.i64_in _ (by omega)
  have R0 := hid h0
  have c2 := range_cell h0 (show (gtL g p)[2]? = some (.int .i64 g.travel) from rfl)
  clear hg hJ hY hss hra hrl htr hsl hN h0 hwr
  refine callsIn_of_wp Try.func107 rfl trivial ?_ rfl
  simp only [Try.ntmps107, List.size_toArray, List.length_cons, List.length_nil, Nat.reduceAdd, Nat.reduceSub, Array.replicate_succ, Array.replicate_zero, List.push_toArray, List.append_toArray, List.nil_append, List.cons_append]
  gi_wp2
  clear c2
  gi_loopw [4, 5, 6, 7, 11] (fun a4 a5 a6 a7 i wr => ∃ k : Nat, k ≤ N ∧ i = .int .i64 k ∧ Hid (J (posL g rs k) wr) ∧ KeepF n₀ W wr) (fun _ _ _ _ i _ => N - (intOf i).toNat)
  case atStart => exact ⟨0, Nat.zero_le _, rfl, hid hj0, KeepF.refl _ _⟩
  case round =>
    obtain ⟨k, hk, rfl, hjk, hbw⟩ := hrel
    have hsw := hbw.low.size
    have c19 := range_cell (hbw.range (by omega) (by omega) R0.out) (show (gtL g p)[19]? = some (.slice sa g.ss.length p.sc) by rw [← HSa.out]; rfl)
    by_cases hlt : k < N
    · gi_wp2
      clear c19
      gi_loopw [5, 6, 7, 17] (fun a5 a6 a7 i wr2 => ∃ j : Nat, j ≤ g.ss.length ∧ i = .int .i64 j ∧ a5 = .int .i64 (cntAg g.ss rs k j) ∧ Hid (J (posL g rs k) wr2) ∧ KeepF n₀ W wr2) (fun _ _ _ i _ => g.ss.length - (intOf i).toNat)
      case atStart => exact ⟨0, Nat.zero_le _, rfl, rfl, hjk, hbw⟩
      case round =>
        obtain ⟨WR, hWR⟩ : ∃ X, X = wr := ⟨_, rfl⟩
        subst hWR
        obtain ⟨j, hj, rfl, rfl, hjk2, hbw2⟩ := hrel
        have hsw2 := hbw2.low.size
        by_cases hlj : j < g.ss.length
        · have hB2 := hwW.trans (hbw2.low.mono hw0)
          obtain ⟨b, o, rfl, hb, hat⟩ := HSs.out.later hB2 (Nat.le_refl _) |>.resolve_left (by intro e; rw [e] at hlj; simp at hlj)
          obtain ⟨rb, ro, rfl, hrb, hrat⟩ := HRa.out.later hB2 (Nat.le_refl _) |>.resolve_left (by intro e; have := HRl.out; rw [e] at this; simp at this; omega)
          have Rt := hat j hlj
          have hrj : j < rs.length := by rw [HRl.out]; exact hlj
          have r0 := hrat j hrj
          have hSg := senGood (HG.out.ss g.ss[j] (List.getElem_mem hlj))
          have HCs := hid (fun (y : Bool) (hy : agB g.ss[j] rs[j] (k : Int) = y) => cntAg_succ g.ss rs (k : Int) (k := j) (s := g.ss[j]) (r := rs[j]) (y := y) (by simp [List.getD, hlj]) (by simp [List.getD, hrj]) hy)
          generalize g.ss[j] = s at *
          generalize rs[j] = r at *
          have t0 : WR.cell? ⟨b, o + j * 3, none⟩ = some (.int .i64 s.kind) := by simpa using Rt 0 _ (show (senL s)[0]? = some (.int .i64 s.kind) from rfl)
          have t1 : WR.cell? ⟨b, o + j * 3 + 1, none⟩ = some (.int .i64 s.at_) := Rt 1 _ rfl
          have t2 : WR.cell? ⟨b, o + j * 3 + 2, none⟩ = some (.int .i64 s.tol) := Rt 2 _ rfl
          have cr := (hbw2.cell (i := n₀ + 2) (by omega) (by omega) 0).trans h1
          have hjI : (j : Int) < (g.ss.length : Int) := by omega
          have hjI2 : (j : Int) < (rs.length : Int) := by omega
          have hj0' : (0 : Int) ≤ (j : Int) := Int.natCast_nonneg _
          have hAg := hid (fun W => agrees_any s r k W hSg ⟨by omega, by have := HTr.out; have := HNn.out; omega⟩)
          obtain ⟨y, hy⟩ : ∃ y, agB s r (k : Int) = y := ⟨_, rfl⟩
          rw [hy] at hAg
          have hcs := HCs.out y hy
          have HC := hid hcs
          have hcl := cntAg_le g.ss rs (k : Int) j
          have HCl := hid hcl
          generalize cntAg g.ss rs (k : Int) j = c at *
          have v3 : IntKind.i64.wrap ((c : Int) + 1) = ((c + 1 : Nat) : Int) := by rw [IntWalk.i64_in _ (by have := HSl.out; omega)]; simp
          have v4 : IntKind.i64.wrap ((j : Int) + 1) = ((j + 1 : Nat) : Int) := by rw [IntWalk.i64_in _ (by have := HSl.out; omega)]; simp
          clear hat hrat Rt hSg HCs hy hcs hcl hjk
          gi_wp2
          have lb' : b < WR.heap.size := hb
          generalize hV : World.alloc WR _ = V
          have bV : Below WR.heap.size WR V := by rw [← hV]; exact (Below.refl _ _).alloc (Nat.le_refl _) _
          have x0 : V.cell? ⟨WR.heap.size, 0, none⟩ = some (.int .i64 s.kind) := by rw [← hV]; simp [go_sem]
          have x1 : V.cell? ⟨WR.heap.size, 1, none⟩ = some (.int .i64 s.at_) := by rw [← hV]; simp [go_sem]
          have x2 : V.cell? ⟨WR.heap.size, 2, none⟩ = some (.int .i64 s.tol) := by rw [← hV]; simp [go_sem]
          have cr' := (bV.cell (p := ⟨n₀ + 2, 0, none⟩) (by show n₀ + 2 < WR.heap.size; omega)).trans cr
          have r0' := (bV.cell (p := ⟨rb, ro + j, none⟩) hrb).trans r0
          have y0 := fun d os => cell_regrown x0 d os
          have y1 := fun d os => cell_regrown x1 d os
          have y2 := fun d os => cell_regrown x2 d os
          have y3 := fun d os => cell_regrown cr' d os
          have y4 := fun d os => cell_regrown r0' d os
          clear hV t0 t1 t2 cr r0 x0 x1 x2 cr' r0'
          refine wpIn_region_quiet_below rfl (by kernel_rfl) (by kernel_rfl) ?_
          repeat (quiet_step_in (fail))
          refine wpQuietIn_step (by go_simp; intros; trivial) (fun K hK => ?_)
          go_simp
          apply Exists.intro
          refine ⟨fun _ => ?_, hK _ ?_⟩
          · first | exact CallsIn.regrown_of (callsIn_wide.2 (hAg.out _)) | exact ⟨trivial, CallsIn.regrown_of (callsIn_wide.2 (hAg.out _))⟩
          clear hK K
          refine wpQuietIn_nil ?_
          intro _ hw'
          obtain ⟨⟨dq, osq⟩, hw''⟩ := hw'
          subst hw''
          have bX : Below WR.heap.size WR (grow (redrawn V dq) osq) := bV.trans ((below_regrown V dq osq).mono bV.size)
          have hJ2 := hid (HJ.out _ _ _ hjk2.out bX)
          have hK2 := hbw2.trans (KeepF.of_below bX (by omega))
          clear y0 y1 y2 y3 y4 bX bV
          generalize grow (redrawn V dq) osq = X at *
          cases y
          · gi_wp2
            refine ⟨⟨j + 1, by omega, by go_num, by rw [HC.out]; rfl, hJ2, hK2⟩, by simp [intOf]; omega⟩
          · gi_wp2
            refine ⟨⟨j + 1, by omega, by go_num, by rw [HC.out]; rfl, hJ2, hK2⟩, by simp [intOf]; omega⟩
        · obtain rfl : j = g.ss.length := by omega
          have R2 := hbw2.range (i := n₀ + 1) (by omega) (by omega) R0.out
          have c19 := range_cell R2 (show (gtL g p)[19]? = some (.slice sa g.ss.length p.sc) by rw [← HSa.out]; rfl)
          have c20 := range_cell R2 (show (gtL g p)[20]? = some (.int .i64 g.wrong) from rfl)
          have v5 : IntKind.i64.wrap ((k : Int) + 1) = ((k + 1 : Nat) : Int) := by rw [IntWalk.i64_in _ (by have := HTr.out; have := HNn.out; omega)]; simp
          have HPs := hid (show posL g rs (k + 1) = posL g rs k ++ (if enB g rs k = true then [(k : Int)] else []) from rfl)
          have HEn := hid (show enB g rs k = decide ((g.ss.length : Int) - g.wrong ≤ (cntAg g.ss rs k g.ss.length : Int)) from rfl)
          generalize cntAg g.ss rs (k : Int) g.ss.length = c at *
          clear R2 hjk
          by_cases hen : (g.ss.length : Int) - g.wrong ≤ (c : Int)
          · have d1 : decide ((g.ss.length : Int) - g.wrong ≤ (c : Int)) = true := by simp [hen]
            have hps := HPs.out
            rw [if_pos (HEn.out.trans d1)] at hps
            have HP := hid hps
            obtain ⟨fn, tmps, assign, body, hy, hR⟩ := HYd.out _ (k : Int) _ hjk2.out (by have := posL_len g rs k; omega)
            simp only [encPos] at hy
            clear hen hps HPs HEn
            gi_wp2
            refine hR.mono ?_
            rintro e W3 (⟨rfl, hJ3, hk3⟩ | ⟨rfl, hJx3⟩)
            · gi_wp2
              refine ⟨⟨k + 1, by omega, by go_num, hid (by rw [HP.out]; exact hJ3), hbw2.trans hk3⟩, by simp [intOf]; omega⟩
            · gi_wp2
              refine bodyPost_ret (results_none rfl _ _ _) rfl ?_
              exact ⟨⟨_, rfl⟩, .inr ⟨_, trivial, hJx3⟩⟩
          · have d1 : decide ((g.ss.length : Int) - g.wrong ≤ (c : Int)) = false := by simp; omega
            have hps := HPs.out
            rw [if_neg (by rw [HEn.out, d1]; simp), List.append_nil] at hps
            have HP := hid hps
            clear hen hps HPs HEn
            gi_wp2
            refine ⟨fun _ h => (by cases h), ?_⟩
            gi_wp2
            refine ⟨⟨k + 1, by omega, by go_num, hid (by rw [HP.out]; exact hjk2.out), hbw2⟩, by simp [intOf]; omega⟩
    · obtain rfl : k = N := by omega
      gi_wp2
      go_end0
      exact ⟨⟨_, rfl⟩, .inl ⟨_, rfl, hjk.out⟩⟩
end Go.Proofs.Ytpgggffcpcjahaa
