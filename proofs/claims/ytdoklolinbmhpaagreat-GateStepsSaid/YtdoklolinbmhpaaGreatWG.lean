/- Gate, part WF: the check of a set: names that come twice; the gates. -/
import Derived.Test.YtdoklolinbmhpaaGreatWB
import Derived.Test.YtdoklolinbmhpaaGreatVG
import Derived.BigQuiet
set_option linter.all false
namespace Go.Proofs.YtdoklolinbmhpaaGreat
open Go.RowKit

/-- A function value K, caps with a gate as its argument returns a bool. -/
def ChkG (B : Nat) (w0 : World) (K : FuncId) (caps : Array Value) (gs : List Gt) (ps : Nat → GtP) (n : Nat) (f : Nat → Bool) : Prop :=
  (∀ args w, (callFunc K args).run Tryz.prog w = .ok (.enter K args) w) ∧
    ∀ j (h : j < gs.length), j < n → ∀ w, Below B w0 w → Calls Tryz.prog K (#[.agg (gtL gs[j] (ps j)).toArray] ++ caps) w fun e w' => e = .returned (.bool (f j)) ∧ Below w.heap.size w w'

set_option maxRecDepth 20000 in
set_option maxHeartbeats 1000000 in
theorem indexFuncG_any (B : Nat) (w0 : World) (b o cap n : Nat) (gs : List Gt) (ps : Nat → GtP) (f : Nat → Bool) (K : FuncId) (caps : Array Value) (w : World) (hn : n ≤ gs.length) (hn8 : gs.length ≤ 140737488355328) (hB : B ≤ w.heap.size) (hw0 : Below B w0 w) (hb : b < w.heap.size)
    (hat : ∀ i (h : i < gs.length), w.rangeAt b (o + i * 21) (gtL gs[i] (ps i))) (hk : ChkG B w0 K caps gs ps n f) :
    Calls Tryz.prog 128 #[.slice (some ⟨b, o, none⟩) n cap, .func (.func K) #[] caps] w
      fun e w' => e = .returned (.int .i64 (idxP f 0 n)) ∧ Below w.heap.size w w' := by
  have HK := hid hk; have HAt := hid hat; clear hk hat
  go_enter Tryz.func128, Tryz.ntmps128
  go_wp2_with fail
  go_loopw [5, 8] (fun _ i wr => ∃ k : Nat, k ≤ n ∧ i = .int .i64 k ∧ Hid (idxP f 0 n = idxP f k (n - k)) ∧ Below w.heap.size w wr) (fun _ i _ => n - (intOf i).toNat)
  case atStart => exact ⟨0, Nat.zero_le _, rfl, hid (by simp), Below.refl _ _⟩
  case round =>
    obtain ⟨k, hk, rfl, hf, hbw⟩ := hrel
    by_cases hlt : k < n
    · obtain ⟨hcall, hC⟩ := HK.out
      have HD := hid (hC k (by omega) hlt wr (hw0.trans (hbw.mono hB)));  clear hC
      have HR := hid (range_later (HAt.out k (by omega)) hbw hb)
      have hyes := fun he => idxP_yes (f := f) hlt he
      have hno := fun he => idxP_no (f := f) hlt he
      have hkI : (k : Int) < (n : Int) := by omega
      generalize f k = y at *
      have HY := hid hyes; clear hyes
      have HN := hid hno; clear hno
      generalize gs[k]'_ = G at *
      go_wp2_with (refine wpList_load_mid rfl 25 _ rfl b (o + k * 21) rfl (gtL G (ps k)) _ HR.out Tryz.underlying25 rfl (by kernel_rfl) ?_)
      refine (HD.out).mono ?_
      rintro e w' ⟨rfl, hb'⟩
      clear HR
      cases y
      · go_wp2_with fail
        refine ⟨⟨k + 1, by omega, by go_num, hid (by rw [hf.out, HN.out (by simp)]), hbw.trans (hb'.mono hbw.size)⟩, ?_⟩
        simp [intOf]; omega
      · go_wp2_with fail
        go_ret
        exact ⟨by rw [hf.out, HY.out (by simp)]; rfl, hbw.trans (hb'.mono hbw.size)⟩
    · have hkl : k = n := by omega
      have HL := hid hkl; clear hkl
      go_wp2_with fail
      go_ret
      exact ⟨by rw [hf.out, HL.out, Nat.sub_self]; rfl, hbw⟩
set_option maxHeartbeats 1000000 in
theorem containsG_any (B : Nat) (w0 : World) (b o cap n : Nat) (gs : List Gt) (ps : Nat → GtP) (f : Nat → Bool) (K : FuncId) (caps : Array Value) (w : World) (hn : n ≤ gs.length) (hn8 : gs.length ≤ 140737488355328) (hB : B ≤ w.heap.size) (hw0 : Below B w0 w) (hb : b < w.heap.size)
    (hat : ∀ i (h : i < gs.length), w.rangeAt b (o + i * 21) (gtL gs[i] (ps i))) (hk : ChkG B w0 K caps gs ps n f) :
    Calls Tryz.prog 112 #[.slice (some ⟨b, o, none⟩) n cap, .func (.func K) #[] caps] w
      fun e w' => e = .returned (.bool (decide (0 ≤ idxP f 0 n))) ∧ Below w.heap.size w w' := by
  have HK := hid hk; have HAt := hid hat; clear hk hat
  have hr := idxP_range (f := f) (k := 0) (n := n)
  go_enter Tryz.func112, Tryz.ntmps112
  go_wp2_with fail
  refine (indexFuncG_any B w0 b o cap n gs ps f K caps _ hn hn8 hB hw0 hb HAt.out HK.out).mono ?_
  rintro e w' ⟨rfl, hb'⟩
  go_wp2_with fail
  go_ret
  exact ⟨by simp, hb'⟩
theorem callFunc_gas11 (args : Array Value) (w : World) : (callFunc 113 args).run Tryz.prog w = .ok (.enter 113 args) w := by simp [go_sem]
theorem callFunc_gas1 (args : Array Value) (w : World) : (callFunc 111 args).run Tryz.prog w = .ok (.enter 111 args) w := by simp [go_sem]
set_option maxRecDepth 100000 in
set_option maxHeartbeats 2000000 in
theorem gas11_any (lb ib b o cap i : Nat) (gs : List Gt) (hi : i < gs.length) (g : Gt) (p : GtP) (w : World) (h1 : w.cell? ⟨lb, 0, none⟩ = some (.slice (some ⟨b, o, none⟩) gs.length cap)) (h2 : w.cell? ⟨ib, 0, none⟩ = some (.int .i64 i))
    (hlb : lb < w.heap.size) (hib : ib < w.heap.size) (hb : b < w.heap.size) (hc0 : w.cell? ⟨b, o + i * 21, none⟩ = some (.string gs[i].name)) :
    Calls Tryz.prog 113 #[.agg (gtL g p).toArray, .pointer (some ⟨lb, 0, none⟩), .pointer (some ⟨ib, 0, none⟩)] w
      fun e w' => e = .returned (.bool (g.name.toList == gs[i].name.toList)) ∧ Below w.heap.size w w' := by
  have hiI : (i : Int) < (gs.length : Int) := by omega
  have n1 : lb ≠ w.heap.size := by omega
  have n2 : ib ≠ w.heap.size := by omega
  have n3 : b ≠ w.heap.size := by omega
  have c0 : (w.alloc (.cells (gtL g p).toArray 25)).cell? ⟨w.heap.size, 0, none⟩ = some (.string g.name) := range_cell (range_alloc w (gtL g p) 25) rfl
  go_enter Tryz.func113, Tryz.ntmps113
  go_wp2_with fail
  go_quiet (fail)
  go_wp2_with fail
  go_ret
  exact ⟨rfl, below_drewN ((Below.refl _ _).alloc (Nat.le_refl _) _) _⟩
set_option maxRecDepth 100000 in
set_option maxHeartbeats 2000000 in
theorem gas1_any (B lb b o cap i : Nat) (gs : List Gt) (hi : i < gs.length) (hn8 : gs.length ≤ 140737488355328) (ps : Nat → GtP) (w : World) (h1 : w.cell? ⟨lb, 0, none⟩ = some (.slice (some ⟨b, o, none⟩) gs.length cap))
    (hlb : lb < B) (hb : b < B) (hB : B ≤ w.heap.size) (hat : ∀ i (h : i < gs.length), w.rangeAt b (o + i * 21) (gtL gs[i] (ps i))) (hok : ∀ i (h : i < gs.length), GtOk w (ps i) gs[i]) (hcap : gs.length ≤ cap) :
    Calls Tryz.prog 111 #[.int .i64 i, .pointer (some ⟨lb, 0, none⟩)] w fun e w' => e = .returned (.int .i64 (gaE gs i)) ∧ Below w.heap.size w w' := by
  have HAt := hid hat; clear hat
  have HE := hid (show gaE gs i = if gtE gs[i] ≠ 0 then gtE gs[i] else if 0 ≤ idxP (gaTw gs i) 0 i then 5 else 0 by unfold gaE; rw [show gs.getD i default = gs[i] by simp [List.getD, hi]])
  have HG := hid (fun W (hW : GtOk W (ps i) (gs[i]'hi)) => gateError_any (gs[i]'hi) (ps i) W hW)
  have HOk := hid (hok i hi)
  clear hok
  have n1 : lb < w.heap.size := by omega
  have hcc : i ≤ cap := by omega
  have hic : (i : Int) ≤ (cap : Int) := by omega
  have hiI : (i : Int) < (gs.length : Int) := by omega
  generalize gaE gs i = te at *
  generalize gtE gs[i] = ge at *
  have hX : Below w.heap.size w (w.alloc (.cells #[.int .i64 i] 3)) := (Below.refl _ _).alloc (Nat.le_refl _) _
  have s1 : (w.alloc (.cells #[.int .i64 i] 3)).heap.size = w.heap.size + 1 := by simp
  have i1 : (w.alloc (.cells #[.int .i64 i] 3)).cell? ⟨w.heap.size, 0, none⟩ = some (.int .i64 i) := by simp [go_sem]
  have l1 : (w.alloc (.cells #[.int .i64 i] 3)).cell? ⟨lb, 0, none⟩ = some (.slice (some ⟨b, o, none⟩) gs.length cap) := (hX.cell (p := ⟨lb, 0, none⟩) n1).trans h1
  have HR := hid (range_later (HAt.out i hi) hX (by omega))
  clear h1
  go_enter Tryz.func111, Tryz.ntmps111
  go_wp2_with (refine wpList_load_mid rfl 25 _ rfl b (o + i * 21) rfl (gtL gs[i] (ps i)) _ HR.out Tryz.underlying25 rfl (by kernel_rfl) ?_)
  refine (HG.out _ (HOk.out.later hX (Nat.le_refl _))).mono ?_
  rintro e w1 ⟨rfl, hb1⟩
  have BW : Below w.heap.size w w1 := hX.trans (hb1.mono hX.size)
  replace i1 : w1.cell? ⟨w.heap.size, 0, none⟩ = some (.int .i64 i) := (hb1.cell (p := ⟨w.heap.size, 0, none⟩) (by show w.heap.size < _; omega)).trans i1
  replace l1 : w1.cell? ⟨lb, 0, none⟩ = some (.slice (some ⟨b, o, none⟩) gs.length cap) := (hb1.cell (p := ⟨lb, 0, none⟩) (by show lb < _; omega)).trans l1
  have z1 : w.heap.size < w1.heap.size := by have := hb1.size; omega
  clear HR hb1 s1 hX
  by_cases hx : ge = 0
  · have q : (ge != 0) = false := by simp [hx]
    have HX := hid hx
    clear hx
    go_wp2_with fail
    refine (containsG_any w1.heap.size w1 b o cap i gs ps (gaTw gs i) _ _ _ (by omega) hn8 (Nat.le_refl _) (Below.refl _ _) (by omega) (fun j h => range_later (HAt.out j h) BW (by omega)) ⟨callFunc_gas11, fun j h hji W hW => ?_⟩).mono ?_
    · have hsW := hW.size
      have := gas11_any lb w.heap.size b o cap i gs hi gs[j] (ps j) W ((hW.cell (p := ⟨lb, 0, none⟩) (by show lb < _; omega)).trans l1) ((hW.cell (p := ⟨w.heap.size, 0, none⟩) (by show w.heap.size < _; omega)).trans i1) (by omega) (by omega) (by omega) (by
        have hc := range_later (range_later (HAt.out i hi) BW (by omega)) hW (by omega)
        simpa using hc 0 (.string gs[i].name) rfl)
      refine this.mono ?_
      rintro e w' ⟨rfl, hb'⟩
      exact ⟨by unfold gaTw; rw [show gs.getD j default = gs[j] by simp [List.getD, h], show gs.getD i default = gs[i] by simp [List.getD, hi]], hb'⟩
    rintro e w' ⟨rfl, hb'⟩
    have hfin := BW.trans (hb'.mono BW.size)
    by_cases hc : 0 ≤ idxP (gaTw gs i) 0 i
    · have hc2 : decide (0 ≤ idxP (gaTw gs i) 0 i) = true := by simpa using hc
      have HC := hid hc
      rw [hc2]
      clear hc hc2 i1 l1
      go_wp2_with fail
      go_ret
      exact ⟨ret_iE (by rw [HE.out, if_neg (by simp [HX.out]), if_pos HC.out]), hfin⟩
    · have hc2 : decide (0 ≤ idxP (gaTw gs i) 0 i) = false := by simpa using hc
      have HC := hid hc
      rw [hc2]
      clear hc hc2 i1 l1
      go_wp2_with fail
      go_ret
      exact ⟨ret_iE (by rw [HE.out, if_neg (by simp [HX.out]), if_neg (by have := HC.out; omega)]), hfin⟩
  · have q : (ge != 0) = true := by simp [hx]
    have HX := hid hx
    clear hx
    go_wp2_with fail
    go_ret
    exact ⟨ret_iE (by rw [HE.out, if_pos HX.out]), BW⟩
set_option maxRecDepth 100000 in
set_option maxHeartbeats 2000000 in
theorem checkGates_any (ga : Option Addr) (gs : List Gt) (gc : Nat) (ps : Nat → GtP) (w : World) (hok : GatesOk w ga gs ps) (hlen : gs.length ≤ gc ∧ gs.length ≤ 140737488355328) :
    Calls Tryz.prog 84 #[.slice ga gs.length gc] w fun e w' => e = .returned (.tuple #[.int .i64 (gasP gs).1, .int .i64 (gasP gs).2]) ∧ Below w.heap.size w w' := by
  have HO := hid (show gasP gs = (firstAt 0 [mustP (inB gs.length 1 6) 0 3, eachP (gaE gs) 0 gs.length]).2 from rfl)
  generalize gasP gs = op at *
  go_enter Tryz.func84, Tryz.ntmps84
  go_wp2_with fail
  generalize hW1 : World.alloc w _ = W1
  have B1 : Below w.heap.size w W1 := by rw [← hW1]; exact (Below.refl _ _).alloc (Nat.le_refl _) _
  have hB1 : w.heap.size + 1 ≤ W1.heap.size := by rw [← hW1]; simp
  have c3 : W1.cell? ⟨w.heap.size, 0, none⟩ = some (.slice ga gs.length gc) := by rw [← hW1]; simp [go_sem]
  clear hW1
  have HI : Hid (ChkI (w.heap.size + 1) W1 111 #[.pointer (some ⟨w.heap.size, 0, none⟩)] gs.length (gaE gs)) := by
    refine hid ⟨callFunc_gas1, fun i hi W hW => ?_⟩
    obtain ⟨b, o, ha, hb, hat⟩ := hok.at_.row (by omega)
    have hWw := B1.trans (hW.mono (by omega))
    refine gas1_any (w.heap.size + 1) w.heap.size b o gc i gs hi hlen.2 ps W ?_ (by omega) (by omega) (by have := hW.size; omega) (fun j hj => range_later (hat j hj) hWw hb) (fun j hj => (hok.ok j hj).later hWw (Nat.le_refl _)) hlen.1
    rw [hW.cell (p := ⟨w.heap.size, 0, none⟩) (by show w.heap.size < _; omega), c3, ha]
  have HOk := hid hok
  clear hok
  refine wp_region_noPanic ?_
  refine wp_region_held_drew (S := (fun w' => Below (w.heap.size + 1) W1 w' ∧ w'.cell? ⟨w.heap.size, 0, none⟩ = some (.slice ga gs.length gc))) (by kernel_rfl) ?_ (fun hHeld => ?_)
  · exact ⟨(Below.refl _ _).drew, by simpa using c3⟩
  refine wpAnyH_take (i := 0) (oi := { dst := _, op := _, type := _, pos := _, after := _, guard := _ }) (v := ?_) rfl (by kernel_rfl) (by kernel_rfl) (by kernel_rfl) (fun _ _ _ h => h) (Or.inl ⟨by rfl, ?_⟩) (by assumption) ?_
  rotate_left
  · intro wS hSw; (try dsimp only at hSw); go_simp; try (with_reducible rfl)
  try simp only [Act.put, List.setIfInBounds_toArray, List.set_cons_zero, List.set_cons_succ]
  refine wpAnyH_take (i := 1) (oi := { dst := _, op := _, type := _, pos := _, after := _, guard := _ }) (v := ?_) rfl (by kernel_rfl) (by kernel_rfl) (by kernel_rfl) (fun _ _ _ h => h) (Or.inl ⟨by rfl, ?_⟩) (by assumption) ?_
  rotate_left
  · intro wS hSw; (try dsimp only at hSw); go_simp; try (with_reducible rfl)
  try simp only [Act.put, List.setIfInBounds_toArray, List.set_cons_zero, List.set_cons_succ]
  refine wpAnyH_take (i := 4) (oi := { dst := _, op := _, type := _, pos := _, after := _, guard := _ }) (v := ?_) rfl (by kernel_rfl) (by kernel_rfl) (by kernel_rfl) (fun _ _ _ h => h) (Or.inl ⟨by rfl, ?_⟩) (by assumption) ?_
  rotate_left
  · intro wS hSw; (try dsimp only at hSw); go_simp; try (with_reducible rfl)
  try simp only [Act.put, List.setIfInBounds_toArray, List.set_cons_zero, List.set_cons_succ]
  refine wpAnyH_take (i := 5) (oi := { dst := _, op := _, type := _, pos := _, after := _, guard := _ }) (v := ?_) rfl (by kernel_rfl) (by kernel_rfl) (by kernel_rfl) (fun _ _ _ h => h) (Or.inl ⟨by rfl, ?_⟩) (by assumption) ?_
  rotate_left
  · intro wS hSw; (try dsimp only at hSw); go_simp; try (with_reducible rfl)
  try simp only [Act.put, List.setIfInBounds_toArray, List.set_cons_zero, List.set_cons_succ]
  refine wpAnyH_take (i := 6) (oi := { dst := _, op := _, type := _, pos := _, after := _, guard := _ }) (v := ?_) rfl (by kernel_rfl) (by kernel_rfl) (by kernel_rfl) (fun _ _ _ h => h) (Or.inl ⟨by rfl, ?_⟩) (by assumption) ?_
  rotate_left
  · intro wS hSw; (try dsimp only at hSw); go_simp; try (with_reducible rfl)
  try simp only [Act.put, List.setIfInBounds_toArray, List.set_cons_zero, List.set_cons_succ]
  refine wpAnyH_ready (rs := [2]) (by kernel_rfl) (by simp) ?_
  refine AllReadyH.cons (o := { dst := _, op := _, type := _, pos := _, after := _, guard := _ }) rfl (fun K hK => ?_) AllReadyH.nil
  go_simp
  (go_at_call 73; refine (in_any _ _ _ _).mono ?_; rintro e w' ⟨rfl, rfl⟩)
  try go_wp2_with fail
  refine hK.out _ _ ?_ (fun hHeld => ?_)
  · (try dsimp only); first | assumption | exact keepO (by assumption) (by assumption) (Nat.lt_succ_self _) hB1 | exact keepO ((Below.refl _ _).alloc (Nat.le_refl _) _) (by assumption) (Nat.lt_succ_self _) hB1
  clear hK K
  try simp only [Act.put, List.setIfInBounds_toArray, List.set_cons_zero, List.set_cons_succ]
  refine wpAnyH_ready (rs := [3]) (by kernel_rfl) (by simp) ?_
  refine AllReadyH.cons (o := { dst := _, op := _, type := _, pos := _, after := _, guard := _ }) rfl (fun K hK => ?_) AllReadyH.nil
  go_simp
  (go_at_call 35; refine (must_any _ _ _ _).mono ?_; rintro e w' ⟨caps, rfl, hb, hchk⟩)
  try go_wp2_with fail
  refine hK.out _ _ ?_ (fun hHeld => ?_)
  · (try dsimp only); first | assumption | exact keepO (by assumption) (by assumption) (Nat.lt_succ_self _) hB1 | exact keepO ((Below.refl _ _).alloc (Nat.le_refl _) _) (by assumption) (Nat.lt_succ_self _) hB1
  clear hK K
  try simp only [Act.put, List.setIfInBounds_toArray, List.set_cons_zero, List.set_cons_succ]
  refine wpAnyH_ready (rs := [7]) (by kernel_rfl) (by simp) ?_
  refine AllReadyH.cons (o := { dst := _, op := _, type := _, pos := _, after := _, guard := _ }) rfl (fun K hK => ?_) AllReadyH.nil
  go_simp
  (go_at_call 38; refine (each_any (w.heap.size + 1) W1 gs.length (gaE gs) _ _ _ hlen.2 (keepOLe hB1 (by assumption)) (by assumption : Below (w.heap.size + 1) W1 _ ∧ _).1 HI.out).mono ?_; rintro e w' ⟨caps2, rfl, hb2, hchk2⟩)
  try go_wp2_with fail
  refine hK.out _ _ ?_ (fun hHeld => ?_)
  · (try dsimp only); first | assumption | exact keepO (by assumption) (by assumption) (Nat.lt_succ_self _) hB1 | exact keepO ((Below.refl _ _).alloc (Nat.le_refl _) _) (by assumption) (Nat.lt_succ_self _) hB1
  clear hK K
  try simp only [Act.put, List.setIfInBounds_toArray, List.set_cons_zero, List.set_cons_succ]
  refine wpAnyH_ready (rs := [8]) (by kernel_rfl) (by simp) ?_
  refine AllReadyH.cons (o := { dst := _, op := _, type := _, pos := _, after := _, guard := _ }) rfl (fun K hK => ?_) AllReadyH.nil
  go_simp
  refine hK.out _ _ ?_ (fun hHeld => ?_)
  · (try dsimp only); first | assumption | exact keepO (by assumption) (by assumption) (Nat.lt_succ_self _) hB1 | exact keepO ((Below.refl _ _).alloc (Nat.le_refl _) _) (by assumption) (Nat.lt_succ_self _) hB1
  clear hK K
  try simp only [Act.put, List.setIfInBounds_toArray, List.set_cons_zero, List.set_cons_succ]
  refine wpAnyH_ready (rs := [9]) (by kernel_rfl) (by simp) ?_
  refine AllReadyH.cons (o := { dst := _, op := _, type := _, pos := _, after := _, guard := _ }) rfl (fun K hK => ?_) AllReadyH.nil
  go_simp
  (go_at_call 33; refine (first2_chain _ hchk hb2 hchk2).mono ?_; rintro e w' ⟨rfl, hb3⟩)
  try go_wp2_with fail
  refine hK.out _ _ ?_ (fun hHeld => ?_)
  · (try dsimp only); first | assumption | exact keepO (by assumption) (by assumption) (Nat.lt_succ_self _) hB1 | exact keepO ((Below.refl _ _).alloc (Nat.le_refl _) _) (by assumption) (Nat.lt_succ_self _) hB1
  clear hK K
  try simp only [Act.put, List.setIfInBounds_toArray, List.set_cons_zero, List.set_cons_succ]
  refine wpAnyH_take (i := 10) (oi := { dst := _, op := _, type := _, pos := _, after := _, guard := _ }) (v := ?_) rfl (by kernel_rfl) (by kernel_rfl) (by kernel_rfl) (fun _ _ _ h => h) (Or.inl ⟨by rfl, ?_⟩) (by assumption) ?_
  rotate_left
  · intro wS hSw; (try dsimp only at hSw); go_simp; try (with_reducible rfl)
  try simp only [Act.put, List.setIfInBounds_toArray, List.set_cons_zero, List.set_cons_succ]
  refine wpAnyH_take (i := 11) (oi := { dst := _, op := _, type := _, pos := _, after := _, guard := _ }) (v := ?_) rfl (by kernel_rfl) (by kernel_rfl) (by kernel_rfl) (fun _ _ _ h => h) (Or.inl ⟨by rfl, ?_⟩) (by assumption) ?_
  rotate_left
  · intro wS hSw; (try dsimp only at hSw); go_simp; try (with_reducible rfl)
  try simp only [Act.put, List.setIfInBounds_toArray, List.set_cons_zero, List.set_cons_succ]
  refine wpAnyH_take (i := 12) (oi := { dst := _, op := _, type := _, pos := _, after := _, guard := _ }) (v := ?_) rfl (by kernel_rfl) (by kernel_rfl) (by kernel_rfl) (fun _ _ _ h => h) (Or.inl ⟨by rfl, ?_⟩) (by assumption) ?_
  rotate_left
  · intro wS hSw; (try dsimp only at hSw); go_simp; try (with_reducible rfl)
  try simp only [Act.put, List.setIfInBounds_toArray, List.set_cons_zero, List.set_cons_succ]
  refine wpAnyH_take (i := 13) (oi := { dst := _, op := _, type := _, pos := _, after := _, guard := _ }) (v := ?_) rfl (by kernel_rfl) (by kernel_rfl) (by kernel_rfl) (fun _ _ _ h => h) (Or.inl ⟨by rfl, ?_⟩) (by assumption) ?_
  rotate_left
  · intro wS hSw; (try dsimp only at hSw); go_simp; try (with_reducible rfl)
  try simp only [Act.put, List.setIfInBounds_toArray, List.set_cons_zero, List.set_cons_succ]
  refine wpAnyH_take (i := 14) (oi := { dst := _, op := _, type := _, pos := _, after := _, guard := _ }) (v := ?_) rfl (by kernel_rfl) (by kernel_rfl) (by kernel_rfl) (fun _ _ _ h => h) (Or.inl ⟨by rfl, ?_⟩) (by assumption) ?_
  rotate_left
  · intro wS hSw; (try dsimp only at hSw); go_simp; try (with_reducible rfl)
  try simp only [Act.put, List.setIfInBounds_toArray, List.set_cons_zero, List.set_cons_succ]
  refine wpAnyH_take (i := 15) (oi := { dst := _, op := _, type := _, pos := _, after := _, guard := _ }) (v := ?_) rfl (by kernel_rfl) (by kernel_rfl) (by kernel_rfl) (fun _ _ _ h => h) (Or.inl ⟨by rfl, ?_⟩) (by assumption) ?_
  rotate_left
  · intro wS hSw; (try dsimp only at hSw); go_simp; try (with_reducible rfl)
  try simp only [Act.put, List.setIfInBounds_toArray, List.set_cons_zero, List.set_cons_succ]
  refine wpAnyH_done (by kernel_rfl) ?_ _
  refine NoPanic.normal ?_
  have hfin := (by assumption : Below (w.heap.size + 1) W1 _ ∧ World.cell? _ ⟨w.heap.size, 0, none⟩ = some (.slice ga gs.length gc)).1
  generalize firstAt 0 _ = r at *
  go_wp2_with fail
  go_ret2
  exact ⟨ret_two (by rw [HO.out]) (by rw [HO.out]), B1.trans (hfin.mono (by omega))⟩
end Go.Proofs.YtdoklolinbmhpaaGreat

set_option linter.all false
namespace Go.Proofs.YtdoklolinbmhpaaGreat
open Go.RowKit

set_option maxRecDepth 100000 in
set_option maxHeartbeats 2000000 in
theorem ruleError_any (r : Ru) (n : Nat) (w : World) (hn : n ≤ 140737488355328) :
    Calls Tryz.prog 115 #[.agg #[.int .i64 r.gate, .int .i64 r.other, .int .i64 r.lo, .int .i64 r.hi], .int .i64 n] w fun e w' => e = .returned (.int .i64 (ruE n r)) ∧ Below w.heap.size w w' := by
  obtain ⟨a, ha⟩ : ∃ a, inB r.gate 0 ((n : Int) - 1) = a := ⟨_, rfl⟩
  obtain ⟨b, hb⟩ : ∃ b, inB r.other 0 ((n : Int) - 1) = b := ⟨_, rfl⟩
  obtain ⟨c, hc⟩ : ∃ c, inB r.lo 0 r.hi = c := ⟨_, rfl⟩
  obtain ⟨d, hd⟩ : ∃ d, inB r.hi 0 5000 = d := ⟨_, rfl⟩
  have HE := hid (show ruE n r = if a = false ∨ b = false then 4 else if r.gate = r.other then 2 else if c = false ∨ d = false then 7 else 0 by rw [← ha, ← hb, ← hc, ← hd]; rfl)
  have HA := hid ha; have HB := hid hb; have HC := hid hc; have HD := hid hd
  have w1 : IntKind.i64.wrap ((n : Int) - 1) = (n : Int) - 1 := IntWalk.i64_in _ (by omega)
  clear ha hb hc hd
  cases a
  · go_enter Tryz.func115, Tryz.ntmps115
    go_wp2_with ((with_reducible refine (in_val _ _ _ _ _ HA.out).mono ?_); rintro e w' ⟨rfl, rfl⟩)
    go_ret
    exact ⟨ret_iE (by rw [HE.out]; simp), (Below.refl _ _).alloc (Nat.le_refl _) _⟩
  cases b
  · go_enter Tryz.func115, Tryz.ntmps115
    go_wp2_with (first | ((with_reducible refine (in_val _ _ _ _ _ HA.out).mono ?_); rintro e w' ⟨rfl, rfl⟩) | ((with_reducible refine (in_val _ _ _ _ _ HB.out).mono ?_); rintro e w' ⟨rfl, rfl⟩))
    go_ret
    exact ⟨ret_iE (by rw [HE.out]; simp), (Below.refl _ _).alloc (Nat.le_refl _) _⟩
  by_cases he : r.gate = r.other
  · have HEq := hid he
    have q : (r.gate == r.other) = true := by simp [he]
    clear he
    go_enter Tryz.func115, Tryz.ntmps115
    go_wp2_with (first | ((with_reducible refine (in_val _ _ _ _ _ HA.out).mono ?_); rintro e w' ⟨rfl, rfl⟩) | ((with_reducible refine (in_val _ _ _ _ _ HB.out).mono ?_); rintro e w' ⟨rfl, rfl⟩))
    go_ret
    exact ⟨ret_iE (by rw [HE.out, if_neg (by simp), if_pos HEq.out]), (Below.refl _ _).alloc (Nat.le_refl _) _⟩
  have HEq := hid he
  have q : (r.gate == r.other) = false := by simp [he]
  clear he
  cases c
  · go_enter Tryz.func115, Tryz.ntmps115
    go_wp2_with (first | ((with_reducible refine (in_val _ _ _ _ _ HA.out).mono ?_); rintro e w' ⟨rfl, rfl⟩) | ((with_reducible refine (in_val _ _ _ _ _ HB.out).mono ?_); rintro e w' ⟨rfl, rfl⟩) | ((with_reducible refine (in_val _ _ _ _ _ HC.out).mono ?_); rintro e w' ⟨rfl, rfl⟩))
    go_ret
    exact ⟨ret_iE (by rw [HE.out, if_neg (by simp), if_neg HEq.out]; simp), (Below.refl _ _).alloc (Nat.le_refl _) _⟩
  cases d
  all_goals
    go_enter Tryz.func115, Tryz.ntmps115
    go_wp2_with (first | ((with_reducible refine (in_val _ _ _ _ _ HA.out).mono ?_); rintro e w' ⟨rfl, rfl⟩) | ((with_reducible refine (in_val _ _ _ _ _ HB.out).mono ?_); rintro e w' ⟨rfl, rfl⟩) | ((with_reducible refine (in_val _ _ _ _ _ HC.out).mono ?_); rintro e w' ⟨rfl, rfl⟩) | ((with_reducible refine (in_val _ _ _ _ _ HD.out).mono ?_); rintro e w' ⟨rfl, rfl⟩))
    go_ret
    exact ⟨ret_iE (by rw [HE.out, if_neg (by simp), if_neg HEq.out]; simp), (Below.refl _ _).alloc (Nat.le_refl _) _⟩

def ruF (n : Nat) (rs : List Ru) : Nat → Int := fun i => ruE n (rs.getD i default)
theorem callFunc_rus1 (args : Array Value) (w : World) : (callFunc 114 args).run Tryz.prog w = .ok (.enter 114 args) w := by simp [go_sem]
theorem keepRu {w x y : World} {lb b o i n gc rc m : Nat} {ga : Option Addr} {r : Ru} (hlb : lb < w.heap.size) (hb : b < w.heap.size) (hxy : Below x.heap.size x y) (h : Below w.heap.size w x ∧ x.cell? ⟨lb, 0, none⟩ = some (.slice ga n gc) ∧ x.cell? ⟨lb, 1, none⟩ = some (.slice (some ⟨b, o, none⟩) m rc) ∧ x.cell? ⟨b, o + i * 4, none⟩ = some (.int .i64 r.gate) ∧ x.cell? ⟨b, o + i * 4 + 1, none⟩ = some (.int .i64 r.other) ∧ x.cell? ⟨b, o + i * 4 + 2, none⟩ = some (.int .i64 r.lo) ∧ x.cell? ⟨b, o + i * 4 + 3, none⟩ = some (.int .i64 r.hi)) :
    Below w.heap.size w y ∧ y.cell? ⟨lb, 0, none⟩ = some (.slice ga n gc) ∧ y.cell? ⟨lb, 1, none⟩ = some (.slice (some ⟨b, o, none⟩) m rc) ∧ y.cell? ⟨b, o + i * 4, none⟩ = some (.int .i64 r.gate) ∧ y.cell? ⟨b, o + i * 4 + 1, none⟩ = some (.int .i64 r.other) ∧ y.cell? ⟨b, o + i * 4 + 2, none⟩ = some (.int .i64 r.lo) ∧ y.cell? ⟨b, o + i * 4 + 3, none⟩ = some (.int .i64 r.hi) := by
  obtain ⟨h0, h1, h2, h3, h4, h5, h6⟩ := h
  have hs := h0.size
  have c : ∀ q j, q < w.heap.size → y.cell? ⟨q, j, none⟩ = x.cell? ⟨q, j, none⟩ := fun q j hq => hxy.cell (p := ⟨q, j, none⟩) (by show q < x.heap.size; omega)
  exact ⟨h0.trans (hxy.mono hs), (c _ _ hlb).trans h1, (c _ _ hlb).trans h2, (c _ _ hb).trans h3, (c _ _ hb).trans h4, (c _ _ hb).trans h5, (c _ _ hb).trans h6⟩
set_option maxRecDepth 100000 in
set_option maxHeartbeats 2000000 in
theorem rus1_any (lb b o rc i n gc : Nat) (ga : Option Addr) (rs : List Ru) (hi : i < rs.length) (hn8 : n ≤ 140737488355328) (w : World) (h0 : w.cell? ⟨lb, 0, none⟩ = some (.slice ga n gc)) (h1 : w.cell? ⟨lb, 1, none⟩ = some (.slice (some ⟨b, o, none⟩) rs.length rc))
    (hlb : lb < w.heap.size) (hb : b < w.heap.size) (hat : w.rangeAt b (o + i * 4) (ruL rs[i])) :
    Calls Tryz.prog 114 #[.int .i64 i, .pointer (some ⟨lb, 0, none⟩)] w fun e w' => e = .returned (.int .i64 (ruE n (rs.getD i default))) ∧ Below w.heap.size w w' := by
  rw [show rs.getD i default = rs[i] by simp [List.getD, hi]]
  generalize rs[i] = r at *
  have k0 := hat 0 _ (show (ruL r)[0]? = some (.int .i64 r.gate) from rfl)
  have k1 := hat 1 _ (show (ruL r)[1]? = some (.int .i64 r.other) from rfl)
  have k2 := hat 2 _ (show (ruL r)[2]? = some (.int .i64 r.lo) from rfl)
  have k3 := hat 3 _ (show (ruL r)[3]? = some (.int .i64 r.hi) from rfl)
  rw [Nat.add_zero] at k0
  have HR := hid (fun W => ruleError_any r n W hn8)
  generalize ruE n r = re at *
  have hiI : (i : Int) < (rs.length : Int) := by omega
  have hi0 : (0 : Int) ≤ (i : Int) := Int.natCast_nonneg _
  clear hat
  go_enter Tryz.func114, Tryz.ntmps114
  go_wp2_with fail
  refine wp_region_noPanic ?_
  refine wp_region_held_drew (S := (fun w' => Below w.heap.size w w' ∧ w'.cell? ⟨lb, 0, none⟩ = some (.slice ga n gc) ∧ w'.cell? ⟨lb, 1, none⟩ = some (.slice (some ⟨b, o, none⟩) rs.length rc) ∧ w'.cell? ⟨b, o + i * 4, none⟩ = some (.int .i64 r.gate) ∧ w'.cell? ⟨b, o + i * 4 + 1, none⟩ = some (.int .i64 r.other) ∧ w'.cell? ⟨b, o + i * 4 + 2, none⟩ = some (.int .i64 r.lo) ∧ w'.cell? ⟨b, o + i * 4 + 3, none⟩ = some (.int .i64 r.hi))) (by kernel_rfl) ?_ (fun hHeld => ?_)
  · exact ⟨(Below.refl _ _).drew, by simpa using h0, by simpa using h1, by simpa using k0, by simpa using k1, by simpa using k2, by simpa using k3⟩
  refine wpAnyH_take (i := 0) (oi := { dst := _, op := _, type := _, pos := _, after := _, guard := _ }) (v := ?_) rfl (by kernel_rfl) (by kernel_rfl) (by kernel_rfl) (fun _ _ _ h => h) (Or.inl ⟨by rfl, ?_⟩) (by assumption) ?_
  rotate_left
  · intro wS hSw; (try dsimp only at hSw); go_simp; try (with_reducible rfl)
  try simp only [Act.put, List.setIfInBounds_toArray, List.set_cons_zero, List.set_cons_succ]
  refine wpAnyH_take (i := 1) (oi := { dst := _, op := _, type := _, pos := _, after := _, guard := _ }) (v := ?_) rfl (by kernel_rfl) (by kernel_rfl) (by kernel_rfl) (fun _ _ _ h => h) (Or.inl ⟨by rfl, ?_⟩) (by assumption) ?_
  rotate_left
  · intro wS hSw; (try dsimp only at hSw); go_simp; try (with_reducible rfl)
  try simp only [Act.put, List.setIfInBounds_toArray, List.set_cons_zero, List.set_cons_succ]
  refine wpAnyH_take (i := 2) (oi := { dst := _, op := _, type := _, pos := _, after := _, guard := _ }) (v := ?_) rfl (by kernel_rfl) (by kernel_rfl) (by kernel_rfl) (fun _ _ _ h => h) (Or.inl ⟨by rfl, ?_⟩) (by assumption) ?_
  rotate_left
  · intro wS hSw; (try dsimp only at hSw); go_simp; try (with_reducible rfl)
  try simp only [Act.put, List.setIfInBounds_toArray, List.set_cons_zero, List.set_cons_succ]
  refine wpAnyH_take (i := 3) (oi := { dst := _, op := _, type := _, pos := _, after := _, guard := _ }) (v := ?_) rfl (by kernel_rfl) (by kernel_rfl) (by kernel_rfl) (fun _ _ _ h => h) (Or.inl ⟨by rfl, ?_⟩) (by assumption) ?_
  rotate_left
  · intro wS hSw; (try dsimp only at hSw); go_simp; try (with_reducible rfl)
  try simp only [Act.put, List.setIfInBounds_toArray, List.set_cons_zero, List.set_cons_succ]
  refine wpAnyH_take (i := 4) (oi := { dst := _, op := _, type := _, pos := _, after := _, guard := _ }) (v := ?_) rfl (by kernel_rfl) (by kernel_rfl) (by kernel_rfl) (fun _ _ _ h => h) (Or.inl ⟨by rfl, ?_⟩) (by assumption) ?_
  rotate_left
  · intro wS hSw; (try dsimp only at hSw); go_simp; try (with_reducible rfl)
  try simp only [Act.put, List.setIfInBounds_toArray, List.set_cons_zero, List.set_cons_succ]
  refine wpAnyH_take (i := 5) (oi := { dst := _, op := _, type := _, pos := _, after := _, guard := _ }) (v := ?_) rfl (by kernel_rfl) (by kernel_rfl) (by kernel_rfl) (fun _ _ _ h => h) (Or.inl ⟨by rfl, ?_⟩) (by assumption) ?_
  rotate_left
  · intro wS hSw; (try dsimp only at hSw); go_simp; try (with_reducible rfl)
  try simp only [Act.put, List.setIfInBounds_toArray, List.set_cons_zero, List.set_cons_succ]
  refine wpAnyH_take (i := 6) (oi := { dst := _, op := _, type := _, pos := _, after := _, guard := _ }) (v := ?_) rfl (by kernel_rfl) (by kernel_rfl) (by kernel_rfl) (fun _ _ _ h => h) (Or.inl ⟨by rfl, ?_⟩) (by assumption) ?_
  rotate_left
  · intro wS hSw; (try dsimp only at hSw); go_simp; try (with_reducible rfl)
  try simp only [Act.put, List.setIfInBounds_toArray, List.set_cons_zero, List.set_cons_succ]
  refine wpAnyH_take (i := 7) (oi := { dst := _, op := _, type := _, pos := _, after := _, guard := _ }) (v := ?_) rfl (by kernel_rfl) (by kernel_rfl) (by kernel_rfl) (fun _ _ _ h => h) (Or.inl ⟨by rfl, ?_⟩) (by assumption) ?_
  rotate_left
  · intro wS hSw; (try dsimp only at hSw); go_simp; try (with_reducible rfl)
  try simp only [Act.put, List.setIfInBounds_toArray, List.set_cons_zero, List.set_cons_succ]
  refine wpAnyH_ready (rs := [8]) (by kernel_rfl) (by simp) ?_
  refine AllReadyH.cons (o := { dst := _, op := _, type := _, pos := _, after := _, guard := _ }) rfl (fun K hK => ?_) AllReadyH.nil
  go_simp
  (go_at_call 115; (with_reducible refine (HR.out _).mono ?_); rintro e w' ⟨rfl, hbe⟩)
  try go_wp2_with fail
  refine hK.out _ _ ?_ (fun hHeld => ?_)
  · (try dsimp only); first | assumption | exact keepRu (by omega) (by omega) (by assumption) (by assumption)
  clear hK K
  try simp only [Act.put, List.setIfInBounds_toArray, List.set_cons_zero, List.set_cons_succ]
  refine wpAnyH_take (i := 9) (oi := { dst := _, op := _, type := _, pos := _, after := _, guard := _ }) (v := ?_) rfl (by kernel_rfl) (by kernel_rfl) (by kernel_rfl) (fun _ _ _ h => h) (Or.inl ⟨by rfl, ?_⟩) (by assumption) ?_
  rotate_left
  · intro wS hSw; (try dsimp only at hSw); go_simp; try (with_reducible rfl)
  try simp only [Act.put, List.setIfInBounds_toArray, List.set_cons_zero, List.set_cons_succ]
  refine wpAnyH_done (by kernel_rfl) ?_ _
  refine NoPanic.normal ?_
  have hfin := (by assumption : Below w.heap.size w _ ∧ World.cell? _ ⟨lb, 0, none⟩ = some (.slice ga n gc) ∧ _ ∧ _ ∧ _ ∧ _ ∧ _).1
  clear hHeld
  go_wp2_with fail
  go_ret
  exact ⟨rfl, hfin⟩
set_option maxRecDepth 100000 in
set_option maxHeartbeats 2000000 in
theorem checkRules_any (z : SetV) (w : World) (hok : SetOk w z) :
    Calls Tryz.prog 86 #[.agg #[.slice z.ga z.gs.length z.gc, .slice z.ra z.rs.length z.rc]] w fun e w' => e = .returned (.tuple #[.int .i64 (rusP z.gs.length z.rs).1, .int .i64 (rusP z.gs.length z.rs).2]) ∧ Below w.heap.size w w' := by
  have HO := hid (show rusP z.gs.length z.rs = (firstAt 0 [mustP (decide ((z.rs.length : Int) ≤ 12)) 0 3, eachP (ruF z.gs.length z.rs) 0 z.rs.length]).2 from rfl)
  generalize rusP z.gs.length z.rs = op at *
  go_enter Tryz.func86, Tryz.ntmps86
  go_wp2_with fail
  generalize hW1 : World.alloc w _ = W1
  have B1 : Below w.heap.size w W1 := by rw [← hW1]; exact (Below.refl _ _).alloc (Nat.le_refl _) _
  have hB1 : w.heap.size + 1 ≤ W1.heap.size := by rw [← hW1]; simp
  have c2 : W1.cell? ⟨w.heap.size, 0, none⟩ = some (.slice z.ga z.gs.length z.gc) := by rw [← hW1]; simp [go_sem]
  have c3 : W1.cell? ⟨w.heap.size, 1, none⟩ = some (.slice z.ra z.rs.length z.rc) := by rw [← hW1]; simp [go_sem]
  clear hW1
  have HI : Hid (ChkI (w.heap.size + 1) W1 114 #[.pointer (some ⟨w.heap.size, 0, none⟩)] z.rs.length (ruF z.gs.length z.rs)) := by
    refine hid ⟨callFunc_rus1, fun i hi W hW => ?_⟩
    obtain ⟨b, o, ha, hb, hat⟩ := hok.rules.row (by omega)
    have hWw := B1.trans (hW.mono (by omega))
    refine rus1_any w.heap.size b o z.rc i z.gs.length z.gc z.ga z.rs hi hok.glen.2 W ?_ ?_ (by have := hW.size; omega) (by have := hWw.size; omega) (range_later (hat i hi) hWw hb)
    · rw [hW.cell (p := ⟨w.heap.size, 0, none⟩) (by show w.heap.size < _; omega), c2]
    · rw [hW.cell (p := ⟨w.heap.size, 1, none⟩) (by show w.heap.size < _; omega), c3, ha]
  clear c2
  refine wp_region_noPanic ?_
  refine wp_region_held_drew (S := (fun w' => Below (w.heap.size + 1) W1 w' ∧ w'.cell? ⟨w.heap.size, 1, none⟩ = some (.slice z.ra z.rs.length z.rc))) (by kernel_rfl) ?_ (fun hHeld => ?_)
  · exact ⟨(Below.refl _ _).drew, by simpa using c3⟩
  refine wpAnyH_take (i := 0) (oi := { dst := _, op := _, type := _, pos := _, after := _, guard := _ }) (v := ?_) rfl (by kernel_rfl) (by kernel_rfl) (by kernel_rfl) (fun _ _ _ h => h) (Or.inl ⟨by rfl, ?_⟩) (by assumption) ?_
  rotate_left
  · intro wS hSw; (try dsimp only at hSw); go_simp; try (with_reducible rfl)
  try simp only [Act.put, List.setIfInBounds_toArray, List.set_cons_zero, List.set_cons_succ]
  refine wpAnyH_take (i := 1) (oi := { dst := _, op := _, type := _, pos := _, after := _, guard := _ }) (v := ?_) rfl (by kernel_rfl) (by kernel_rfl) (by kernel_rfl) (fun _ _ _ h => h) (Or.inl ⟨by rfl, ?_⟩) (by assumption) ?_
  rotate_left
  · intro wS hSw; (try dsimp only at hSw); go_simp; try (with_reducible rfl)
  try simp only [Act.put, List.setIfInBounds_toArray, List.set_cons_zero, List.set_cons_succ]
  refine wpAnyH_take (i := 2) (oi := { dst := _, op := _, type := _, pos := _, after := _, guard := _ }) (v := ?_) rfl (by kernel_rfl) (by kernel_rfl) (by kernel_rfl) (fun _ _ _ h => h) (Or.inl ⟨by rfl, ?_⟩) (by assumption) ?_
  rotate_left
  · intro wS hSw; (try dsimp only at hSw); go_simp; try (with_reducible rfl)
  try simp only [Act.put, List.setIfInBounds_toArray, List.set_cons_zero, List.set_cons_succ]
  refine wpAnyH_take (i := 3) (oi := { dst := _, op := _, type := _, pos := _, after := _, guard := _ }) (v := ?_) rfl (by kernel_rfl) (by kernel_rfl) (by kernel_rfl) (fun _ _ _ h => h) (Or.inl ⟨by rfl, ?_⟩) (by assumption) ?_
  rotate_left
  · intro wS hSw; (try dsimp only at hSw); go_simp; try (with_reducible rfl)
  try simp only [Act.put, List.setIfInBounds_toArray, List.set_cons_zero, List.set_cons_succ]
  refine wpAnyH_take (i := 5) (oi := { dst := _, op := _, type := _, pos := _, after := _, guard := _ }) (v := ?_) rfl (by kernel_rfl) (by kernel_rfl) (by kernel_rfl) (fun _ _ _ h => h) (Or.inl ⟨by rfl, ?_⟩) (by assumption) ?_
  rotate_left
  · intro wS hSw; (try dsimp only at hSw); go_simp; try (with_reducible rfl)
  try simp only [Act.put, List.setIfInBounds_toArray, List.set_cons_zero, List.set_cons_succ]
  refine wpAnyH_take (i := 6) (oi := { dst := _, op := _, type := _, pos := _, after := _, guard := _ }) (v := ?_) rfl (by kernel_rfl) (by kernel_rfl) (by kernel_rfl) (fun _ _ _ h => h) (Or.inl ⟨by rfl, ?_⟩) (by assumption) ?_
  rotate_left
  · intro wS hSw; (try dsimp only at hSw); go_simp; try (with_reducible rfl)
  try simp only [Act.put, List.setIfInBounds_toArray, List.set_cons_zero, List.set_cons_succ]
  refine wpAnyH_take (i := 7) (oi := { dst := _, op := _, type := _, pos := _, after := _, guard := _ }) (v := ?_) rfl (by kernel_rfl) (by kernel_rfl) (by kernel_rfl) (fun _ _ _ h => h) (Or.inl ⟨by rfl, ?_⟩) (by assumption) ?_
  rotate_left
  · intro wS hSw; (try dsimp only at hSw); go_simp; try (with_reducible rfl)
  try simp only [Act.put, List.setIfInBounds_toArray, List.set_cons_zero, List.set_cons_succ]
  refine wpAnyH_take (i := 8) (oi := { dst := _, op := _, type := _, pos := _, after := _, guard := _ }) (v := ?_) rfl (by kernel_rfl) (by kernel_rfl) (by kernel_rfl) (fun _ _ _ h => h) (Or.inl ⟨by rfl, ?_⟩) (by assumption) ?_
  rotate_left
  · intro wS hSw; (try dsimp only at hSw); go_simp; try (with_reducible rfl)
  try simp only [Act.put, List.setIfInBounds_toArray, List.set_cons_zero, List.set_cons_succ]
  refine wpAnyH_ready (rs := [4]) (by kernel_rfl) (by simp) ?_
  refine AllReadyH.cons (o := { dst := _, op := _, type := _, pos := _, after := _, guard := _ }) rfl (fun K hK => ?_) AllReadyH.nil
  go_simp
  (go_at_call 35; refine (must_any _ _ _ _).mono ?_; rintro e w' ⟨caps, rfl, hb, hchk⟩)
  try go_wp2_with fail
  refine hK.out _ _ ?_ (fun hHeld => ?_)
  · (try dsimp only); first | assumption | exact keepO (by assumption) (by assumption) (Nat.lt_succ_self _) hB1 | exact keepO ((Below.refl _ _).alloc (Nat.le_refl _) _) (by assumption) (Nat.lt_succ_self _) hB1
  clear hK K
  try simp only [Act.put, List.setIfInBounds_toArray, List.set_cons_zero, List.set_cons_succ]
  refine wpAnyH_ready (rs := [9]) (by kernel_rfl) (by simp) ?_
  refine AllReadyH.cons (o := { dst := _, op := _, type := _, pos := _, after := _, guard := _ }) rfl (fun K hK => ?_) AllReadyH.nil
  go_simp
  (go_at_call 38; refine (each_any (w.heap.size + 1) W1 z.rs.length (ruF z.gs.length z.rs) _ _ _ hok.rlen.2 (keepOLe hB1 (by assumption)) (by assumption : Below (w.heap.size + 1) W1 _ ∧ _).1 HI.out).mono ?_; rintro e w' ⟨caps2, rfl, hb2, hchk2⟩)
  try go_wp2_with fail
  refine hK.out _ _ ?_ (fun hHeld => ?_)
  · (try dsimp only); first | assumption | exact keepO (by assumption) (by assumption) (Nat.lt_succ_self _) hB1 | exact keepO ((Below.refl _ _).alloc (Nat.le_refl _) _) (by assumption) (Nat.lt_succ_self _) hB1
  clear hK K
  try simp only [Act.put, List.setIfInBounds_toArray, List.set_cons_zero, List.set_cons_succ]
  refine wpAnyH_ready (rs := [10]) (by kernel_rfl) (by simp) ?_
  refine AllReadyH.cons (o := { dst := _, op := _, type := _, pos := _, after := _, guard := _ }) rfl (fun K hK => ?_) AllReadyH.nil
  go_simp
  refine hK.out _ _ ?_ (fun hHeld => ?_)
  · (try dsimp only); first | assumption | exact keepO (by assumption) (by assumption) (Nat.lt_succ_self _) hB1 | exact keepO ((Below.refl _ _).alloc (Nat.le_refl _) _) (by assumption) (Nat.lt_succ_self _) hB1
  clear hK K
  try simp only [Act.put, List.setIfInBounds_toArray, List.set_cons_zero, List.set_cons_succ]
  refine wpAnyH_ready (rs := [11]) (by kernel_rfl) (by simp) ?_
  refine AllReadyH.cons (o := { dst := _, op := _, type := _, pos := _, after := _, guard := _ }) rfl (fun K hK => ?_) AllReadyH.nil
  go_simp
  (go_at_call 33; refine (first2_chain _ hchk hb2 hchk2).mono ?_; rintro e w' ⟨rfl, hb3⟩)
  try go_wp2_with fail
  refine hK.out _ _ ?_ (fun hHeld => ?_)
  · (try dsimp only); first | assumption | exact keepO (by assumption) (by assumption) (Nat.lt_succ_self _) hB1 | exact keepO ((Below.refl _ _).alloc (Nat.le_refl _) _) (by assumption) (Nat.lt_succ_self _) hB1
  clear hK K
  try simp only [Act.put, List.setIfInBounds_toArray, List.set_cons_zero, List.set_cons_succ]
  refine wpAnyH_take (i := 12) (oi := { dst := _, op := _, type := _, pos := _, after := _, guard := _ }) (v := ?_) rfl (by kernel_rfl) (by kernel_rfl) (by kernel_rfl) (fun _ _ _ h => h) (Or.inl ⟨by rfl, ?_⟩) (by assumption) ?_
  rotate_left
  · intro wS hSw; (try dsimp only at hSw); go_simp; try (with_reducible rfl)
  try simp only [Act.put, List.setIfInBounds_toArray, List.set_cons_zero, List.set_cons_succ]
  refine wpAnyH_take (i := 13) (oi := { dst := _, op := _, type := _, pos := _, after := _, guard := _ }) (v := ?_) rfl (by kernel_rfl) (by kernel_rfl) (by kernel_rfl) (fun _ _ _ h => h) (Or.inl ⟨by rfl, ?_⟩) (by assumption) ?_
  rotate_left
  · intro wS hSw; (try dsimp only at hSw); go_simp; try (with_reducible rfl)
  try simp only [Act.put, List.setIfInBounds_toArray, List.set_cons_zero, List.set_cons_succ]
  refine wpAnyH_take (i := 14) (oi := { dst := _, op := _, type := _, pos := _, after := _, guard := _ }) (v := ?_) rfl (by kernel_rfl) (by kernel_rfl) (by kernel_rfl) (fun _ _ _ h => h) (Or.inl ⟨by rfl, ?_⟩) (by assumption) ?_
  rotate_left
  · intro wS hSw; (try dsimp only at hSw); go_simp; try (with_reducible rfl)
  try simp only [Act.put, List.setIfInBounds_toArray, List.set_cons_zero, List.set_cons_succ]
  refine wpAnyH_take (i := 15) (oi := { dst := _, op := _, type := _, pos := _, after := _, guard := _ }) (v := ?_) rfl (by kernel_rfl) (by kernel_rfl) (by kernel_rfl) (fun _ _ _ h => h) (Or.inl ⟨by rfl, ?_⟩) (by assumption) ?_
  rotate_left
  · intro wS hSw; (try dsimp only at hSw); go_simp; try (with_reducible rfl)
  try simp only [Act.put, List.setIfInBounds_toArray, List.set_cons_zero, List.set_cons_succ]
  refine wpAnyH_take (i := 16) (oi := { dst := _, op := _, type := _, pos := _, after := _, guard := _ }) (v := ?_) rfl (by kernel_rfl) (by kernel_rfl) (by kernel_rfl) (fun _ _ _ h => h) (Or.inl ⟨by rfl, ?_⟩) (by assumption) ?_
  rotate_left
  · intro wS hSw; (try dsimp only at hSw); go_simp; try (with_reducible rfl)
  try simp only [Act.put, List.setIfInBounds_toArray, List.set_cons_zero, List.set_cons_succ]
  refine wpAnyH_take (i := 17) (oi := { dst := _, op := _, type := _, pos := _, after := _, guard := _ }) (v := ?_) rfl (by kernel_rfl) (by kernel_rfl) (by kernel_rfl) (fun _ _ _ h => h) (Or.inl ⟨by rfl, ?_⟩) (by assumption) ?_
  rotate_left
  · intro wS hSw; (try dsimp only at hSw); go_simp; try (with_reducible rfl)
  try simp only [Act.put, List.setIfInBounds_toArray, List.set_cons_zero, List.set_cons_succ]
  refine wpAnyH_done (by kernel_rfl) ?_ _
  refine NoPanic.normal ?_
  have hfin := (by assumption : Below (w.heap.size + 1) W1 _ ∧ World.cell? _ ⟨w.heap.size, 1, none⟩ = some (.slice z.ra z.rs.length z.rc)).1
  generalize firstAt 0 _ = r at *
  go_wp2_with fail
  go_ret2
  exact ⟨ret_two (by rw [HO.out]) (by rw [HO.out]), B1.trans (hfin.mono (by omega))⟩
theorem callFunc_set1 (args : Array Value) (w : World) : (callFunc 83 args).run Tryz.prog w = .ok (.enter 83 args) w := by simp [go_sem]
theorem callFunc_set2 (args : Array Value) (w : World) : (callFunc 85 args).run Tryz.prog w = .ok (.enter 85 args) w := by simp [go_sem]
set_option maxRecDepth 100000 in
set_option maxHeartbeats 1000000 in
theorem set1_any (tb : Nat) (z : SetV) (w : World) (hok : SetOk w z) (c0 : w.cell? ⟨tb, 0, none⟩ = some (.slice z.ga z.gs.length z.gc)) :
    Calls Tryz.prog 83 #[.pointer (some ⟨tb, 0, none⟩)] w fun e w' => e = .returned (.tuple #[.int .i64 (gasP z.gs).1, .int .i64 (gasP z.gs).2]) ∧ Below w.heap.size w w' := by
  have HC := hid (checkGates_any z.ga z.gs z.gc z.ps w hok.gates hok.glen)
  generalize gasP z.gs = q at *
  clear hok
  go_enter Tryz.func83, Tryz.ntmps83
  go_wp2_with fail
  refine (HC.out).mono ?_
  rintro e w' ⟨rfl, hb⟩
  go_wp2_with fail
  go_ret2
  exact ⟨rfl, hb⟩
set_option maxRecDepth 100000 in
set_option maxHeartbeats 1000000 in
theorem set2_any (tb : Nat) (z : SetV) (w : World) (hok : SetOk w z) (c0 : w.cell? ⟨tb, 0, none⟩ = some (.slice z.ga z.gs.length z.gc)) (c1 : w.cell? ⟨tb, 1, none⟩ = some (.slice z.ra z.rs.length z.rc)) :
    Calls Tryz.prog 85 #[.pointer (some ⟨tb, 0, none⟩)] w fun e w' => e = .returned (.tuple #[.int .i64 (rusP z.gs.length z.rs).1, .int .i64 (rusP z.gs.length z.rs).2]) ∧ Below w.heap.size w w' := by
  have HC := hid (checkRules_any z w hok)
  generalize rusP z.gs.length z.rs = q at *
  clear hok
  go_enter Tryz.func85, Tryz.ntmps85
  go_wp2_with fail
  refine (HC.out).mono ?_
  rintro e w' ⟨rfl, hb⟩
  go_wp2_with fail
  go_ret2
  exact ⟨rfl, hb⟩
set_option maxRecDepth 100000 in
set_option maxHeartbeats 2000000 in
theorem checkSet_any (z : SetV) (w : World) (hok : SetOk w z) :
    Calls Tryz.prog 53 #[.agg #[.slice z.ga z.gs.length z.gc, .slice z.ra z.rs.length z.rc]] w fun e w' => e = .returned (.tuple #[.int .i64 (setP z.gs z.rs).1, .int .i64 (setP z.gs z.rs).2.1, .int .i64 (setP z.gs z.rs).2.2]) ∧ Below w.heap.size w w' := by
  have HP := hid (show setP z.gs z.rs = firstAt 0 [gasP z.gs, rusP z.gs.length z.rs] from rfl)
  have HOk := hid hok
  clear hok
  go_enter Tryz.func53, Tryz.ntmps53
  go_wp2_with fail
  have B2 : Below w.heap.size w ((w.alloc (.cells #[.slice z.ga z.gs.length z.gc, .slice z.ra z.rs.length z.rc] 60)).alloc (.cells #[.func (.func 83) #[] #[.pointer (some ⟨w.heap.size, 0, none⟩)], .func (.func 85) #[] #[.pointer (some ⟨w.heap.size, 0, none⟩)]] 82)) := ((Below.refl _ _).alloc (Nat.le_refl _) _).alloc (by simp) _
  have hsz : ((w.alloc (.cells #[.slice z.ga z.gs.length z.gc, .slice z.ra z.rs.length z.rc] 60)).alloc (.cells #[.func (.func 83) #[] #[.pointer (some ⟨w.heap.size, 0, none⟩)], .func (.func 85) #[] #[.pointer (some ⟨w.heap.size, 0, none⟩)]] 82)).heap.size = w.heap.size + 2 := by simp
  have c0 : ((w.alloc (.cells #[.slice z.ga z.gs.length z.gc, .slice z.ra z.rs.length z.rc] 60)).alloc (.cells #[.func (.func 83) #[] #[.pointer (some ⟨w.heap.size, 0, none⟩)], .func (.func 85) #[] #[.pointer (some ⟨w.heap.size, 0, none⟩)]] 82)).cell? ⟨w.heap.size, 0, none⟩ = some (.slice z.ga z.gs.length z.gc) := by simp [go_sem]
  have c1 : ((w.alloc (.cells #[.slice z.ga z.gs.length z.gc, .slice z.ra z.rs.length z.rc] 60)).alloc (.cells #[.func (.func 83) #[] #[.pointer (some ⟨w.heap.size, 0, none⟩)], .func (.func 85) #[] #[.pointer (some ⟨w.heap.size, 0, none⟩)]] 82)).cell? ⟨w.heap.size, 1, none⟩ = some (.slice z.ra z.rs.length z.rc) := by simp [go_sem]
  have hcells : ∀ i, i < 2 → ((w.alloc (.cells #[.slice z.ga z.gs.length z.gc, .slice z.ra z.rs.length z.rc] 60)).alloc (.cells #[.func (.func 83) #[] #[.pointer (some ⟨w.heap.size, 0, none⟩)], .func (.func 85) #[] #[.pointer (some ⟨w.heap.size, 0, none⟩)]] 82)).cell? ⟨w.heap.size + 1, 0 + i, none⟩ = some (.func (.func (match i with | 0 => 83 | _ => 85)) #[] #[.pointer (some ⟨w.heap.size, 0, none⟩)]) := by
    intro i hi
    match i, hi with
    | 0, _ => simp [go_sem]
    | 1, _ => simp [go_sem]
  have HC := hid hcells
  clear hcells
  generalize hW2 : World.alloc (World.alloc w _) _ = W2 at *
  clear hW2
  refine (first_any W2.heap.size W2 [gasP z.gs, rusP z.gs.length z.rs] (w.heap.size + 1) 0 2 (fun i => match i with | 0 => 83 | _ => 85) (fun _ => #[.pointer (some ⟨w.heap.size, 0, none⟩)]) W2 (by simp) (Nat.le_refl _) (Below.refl _ _) (by omega) (fun i hi => HC.out i hi) (fun i hi => ?_)).mono ?_
  · have hi' : i < 2 := hi
    have hk : ∀ W, Below W2.heap.size W2 W → SetOk W z ∧ W.cell? ⟨w.heap.size, 0, none⟩ = some (.slice z.ga z.gs.length z.gc) ∧ W.cell? ⟨w.heap.size, 1, none⟩ = some (.slice z.ra z.rs.length z.rc) := fun W hW =>
      ⟨(HOk.out.later B2 (Nat.le_refl _)).later hW (Nat.le_refl _), (hW.cell (p := ⟨w.heap.size, 0, none⟩) (by show w.heap.size < _; omega)).trans c0, (hW.cell (p := ⟨w.heap.size, 1, none⟩) (by show w.heap.size < _; omega)).trans c1⟩
    match i, hi' with
    | 0, _ => exact ⟨callFunc_set1, fun W hW => set1_any _ z W (hk W hW).1 (hk W hW).2.1⟩
    | 1, _ => exact ⟨callFunc_set2, fun W hW => set2_any _ z W (hk W hW).1 (hk W hW).2.1 (hk W hW).2.2⟩
  rintro e w' ⟨rfl, hb⟩
  have hfin := B2.trans (hb.mono (by omega))
  rw [← HP.out]
  obtain ⟨r, hr⟩ : ∃ r, setP z.gs z.rs = r := ⟨_, rfl⟩
  rw [hr]
  have HQ := hid hr
  clear HC hsz B2 hb hr c0 c1
  go_wp2_with fail
  refine bodyPost_ret (v := .tuple #[.int .i64 r.1, .int .i64 r.2.1, .int .i64 r.2.2]) (by simp [results, Tryz.results53, go_sem]) rfl ⟨by rw [HQ.out], hfin⟩
end Go.Proofs.YtdoklolinbmhpaaGreat
