/- Gate, part WF: the check of a set: names that come twice; the gates. -/
import Derived.Test.YtpgggffcpcjahaaWB
import Derived.Test.YtpgggffcpcjahaaVG
import Derived.BigQuiet
set_option linter.all false
namespace Go.Proofs.Ytpgggffcpcjahaa
open Go.RowKit

/-- A function value K, caps with a gate as its argument returns a bool. -/
def ChkG (B : Nat) (w0 : World) (K : FuncId) (caps : Array Value) (gs : List Gt) (ps : Nat → GtP) (n : Nat) (f : Nat → Bool) : Prop :=
  (∀ args w, (callFunc K args).run Try.prog w = .ok (.enter K args) w) ∧
    ∀ j (h : j < gs.length), j < n → ∀ w, Below B w0 w → Calls Try.prog K (#[.agg (gtL gs[j] (ps j)).toArray] ++ caps) w fun e w' => e = .returned (.bool (f j)) ∧ Below w.heap.size w w'

set_option maxRecDepth 20000 in
set_option maxHeartbeats 1000000 in
theorem indexFuncG_any (B : Nat) (w0 : World) (b o cap n : Nat) (gs : List Gt) (ps : Nat → GtP) (f : Nat → Bool) (K : FuncId) (caps : Array Value) (w : World) (hn : n ≤ gs.length) (hn8 : gs.length ≤ 140737488355328) (hB : B ≤ w.heap.size) (hw0 : Below B w0 w) (hb : b < w.heap.size)
    (hat : ∀ i (h : i < gs.length), w.rangeAt b (o + i * 21) (gtL gs[i] (ps i))) (hk : ChkG B w0 K caps gs ps n f) :
    Calls Try.prog 114 #[.slice (some ⟨b, o, none⟩) n cap, .func (.func K) #[] caps] w
      fun e w' => e = .returned (.int .i64 (idxP f 0 n)) ∧ Below w.heap.size w w' := by
  have HK := hid hk; have HAt := hid hat; clear hk hat
  go_enter Try.func114, Try.ntmps114
  go_wp2_with fail
  go_loopw [5, 8] (fun _ i wr => ∃ k : Nat, k ≤ n ∧ i = .int .i64 k ∧ Hid (idxP f 0 n = idxP f k (n - k)) ∧ Below w.heap.size w wr) (fun _ i _ => n - (intOf i).toNat)
  case atStart => exact ⟨0, Nat.zero_le _, rfl, hid (by simp), Below.refl _ _⟩
  case round =>
    obtain ⟨k, hk, rfl, hf, hbw⟩ := hrel
    by_cases hlt : k < n
    · obtain ⟨hcall, hC⟩ := HK.out
      have HD := hid (hC k (by omega) hlt wr (hw0.trans (hbw.mono hB)));  clear hC
      have HR := hid (range_later (HAt.out k (by omega)) hbw hb)
      have hyes := fun he => idxP_yes (f := f) hlt he
      have hno := fun he => idxP_no (f := f) hlt he
      have hkI : (k : Int) < (n : Int) := by omega
      generalize f k = y at *
      have HY := hid hyes; clear hyes
      have HN := hid hno; clear hno
      generalize gs[k]'_ = G at *
      go_wp2_with (refine wpList_load_mid rfl 33 _ rfl b (o + k * 21) rfl (gtL G (ps k)) _ HR.out Try.underlying33 rfl (by kernel_rfl) ?_)
      refine (HD.out).mono ?_
      rintro e w' ⟨rfl, hb'⟩
      clear HR
      cases y
      · go_wp2_with fail
        refine ⟨⟨k + 1, by omega, by go_num, hid (by rw [hf.out, HN.out (by simp)]), hbw.trans (hb'.mono hbw.size)⟩, ?_⟩
        simp [intOf]; omega
      · go_wp2_with fail
        go_ret
        exact ⟨by rw [hf.out, HY.out (by simp)]; rfl, hbw.trans (hb'.mono hbw.size)⟩
    · have hkl : k = n := by omega
      have HL := hid hkl; clear hkl
      go_wp2_with fail
      go_ret
      exact ⟨by rw [hf.out, HL.out, Nat.sub_self]; rfl, hbw⟩
set_option maxHeartbeats 1000000 in
theorem containsG_any (B : Nat) (w0 : World) (b o cap n : Nat) (gs : List Gt) (ps : Nat → GtP) (f : Nat → Bool) (K : FuncId) (caps : Array Value) (w : World) (hn : n ≤ gs.length) (hn8 : gs.length ≤ 140737488355328) (hB : B ≤ w.heap.size) (hw0 : Below B w0 w) (hb : b < w.heap.size)
    (hat : ∀ i (h : i < gs.length), w.rangeAt b (o + i * 21) (gtL gs[i] (ps i))) (hk : ChkG B w0 K caps gs ps n f) :
    Calls Try.prog 87 #[.slice (some ⟨b, o, none⟩) n cap, .func (.func K) #[] caps] w
      fun e w' => e = .returned (.bool (decide (0 ≤ idxP f 0 n))) ∧ Below w.heap.size w w' := by
  have HK := hid hk; have HAt := hid hat; clear hk hat
  have hr := idxP_range (f := f) (k := 0) (n := n)
  go_enter Try.func87, Try.ntmps87
  go_wp2_with fail
  refine (indexFuncG_any B w0 b o cap n gs ps f K caps _ hn hn8 hB hw0 hb HAt.out HK.out).mono ?_
  rintro e w' ⟨rfl, hb'⟩
  go_wp2_with fail
  go_ret
  exact ⟨by simp, hb'⟩
theorem callFunc_gas11 (args : Array Value) (w : World) : (callFunc 88 args).run Try.prog w = .ok (.enter 88 args) w := by simp [go_sem]
theorem callFunc_gas1 (args : Array Value) (w : World) : (callFunc 86 args).run Try.prog w = .ok (.enter 86 args) w := by simp [go_sem]
set_option maxRecDepth 100000 in
set_option maxHeartbeats 2000000 in
theorem gas11_any (lb ib b o cap i : Nat) (gs : List Gt) (hi : i < gs.length) (g : Gt) (p : GtP) (w : World) (h1 : w.cell? ⟨lb, 0, none⟩ = some (.slice (some ⟨b, o, none⟩) gs.length cap)) (h2 : w.cell? ⟨ib, 0, none⟩ = some (.int .i64 i))
    (hlb : lb < w.heap.size) (hib : ib < w.heap.size) (hb : b < w.heap.size) (hc0 : w.cell? ⟨b, o + i * 21, none⟩ = some (.string gs[i].name)) :
    Calls Try.prog 88 #[.agg (gtL g p).toArray, .pointer (some ⟨lb, 0, none⟩), .pointer (some ⟨ib, 0, none⟩)] w
      fun e w' => e = .returned (.bool (g.name.toList == gs[i].name.toList)) ∧ Below w.heap.size w w' := by
  have hiI : (i : Int) < (gs.length : Int) := by omega
  have n1 : lb ≠ w.heap.size := by omega
  have n2 : ib ≠ w.heap.size := by omega
  have n3 : b ≠ w.heap.size := by omega
  have c0 : (w.alloc (.cells (gtL g p).toArray 33)).cell? ⟨w.heap.size, 0, none⟩ = some (.string g.name) := range_cell (range_alloc w (gtL g p) 33) rfl
  go_enter Try.func88, Try.ntmps88
  go_wp2_with fail
  go_quiet (fail)
  go_wp2_with fail
  go_ret
  exact ⟨rfl, below_drewN ((Below.refl _ _).alloc (Nat.le_refl _) _) _⟩
set_option maxRecDepth 100000 in
set_option maxHeartbeats 2000000 in
theorem gas1_any (B lb b o cap i : Nat) (gs : List Gt) (hi : i < gs.length) (hn8 : gs.length ≤ 140737488355328) (ps : Nat → GtP) (w : World) (h1 : w.cell? ⟨lb, 0, none⟩ = some (.slice (some ⟨b, o, none⟩) gs.length cap))
    (hlb : lb < B) (hb : b < B) (hB : B ≤ w.heap.size) (hat : ∀ i (h : i < gs.length), w.rangeAt b (o + i * 21) (gtL gs[i] (ps i))) (hok : ∀ i (h : i < gs.length), GtOk w (ps i) gs[i]) (hcap : gs.length ≤ cap) :
    Calls Try.prog 86 #[.int .i64 i, .pointer (some ⟨lb, 0, none⟩)] w fun e w' => e = .returned (.int .i64 (gaE gs i)) ∧ Below w.heap.size w w' := by
  have HAt := hid hat; clear hat
  have HE := hid (show gaE gs i = if gtE gs[i] ≠ 0 then gtE gs[i] else if 0 ≤ idxP (gaTw gs i) 0 i then 5 else 0 by unfold gaE; rw [show gs.getD i default = gs[i] by simp [List.getD, hi]])
  have HG := hid (fun W (hW : GtOk W (ps i) (gs[i]'hi)) => gateError_any (gs[i]'hi) (ps i) W hW)
  have HOk := hid (hok i hi)
  clear hok
  have n1 : lb < w.heap.size := by omega
  have hcc : i ≤ cap := by omega
  have hic : (i : Int) ≤ (cap : Int) := by omega
  have hiI : (i : Int) < (gs.length : Int) := by omega
  generalize gaE gs i = te at *
  generalize gtE gs[i] = ge at *
  have hX : Below w.heap.size w (w.alloc (.cells #[.int .i64 i] 3)) := (Below.refl _ _).alloc (Nat.le_refl _) _
  have s1 : (w.alloc (.cells #[.int .i64 i] 3)).heap.size = w.heap.size + 1 := by simp
  have i1 : (w.alloc (.cells #[.int .i64 i] 3)).cell? ⟨w.heap.size, 0, none⟩ = some (.int .i64 i) := by simp [go_sem]
  have l1 : (w.alloc (.cells #[.int .i64 i] 3)).cell? ⟨lb, 0, none⟩ = some (.slice (some ⟨b, o, none⟩) gs.length cap) := (hX.cell (p := ⟨lb, 0, none⟩) n1).trans h1
  have HR := hid (range_later (HAt.out i hi) hX (by omega))
  clear h1
  go_enter Try.func86, Try.ntmps86
  go_wp2_with (refine wpList_load_mid rfl 33 _ rfl b (o + i * 21) rfl (gtL gs[i] (ps i)) _ HR.out Try.underlying33 rfl (by kernel_rfl) ?_)
  refine (HG.out _ (HOk.out.later hX (Nat.le_refl _))).mono ?_
  rintro e w1 ⟨rfl, hb1⟩
  have BW : Below w.heap.size w w1 := hX.trans (hb1.mono hX.size)
  replace i1 : w1.cell? ⟨w.heap.size, 0, none⟩ = some (.int .i64 i) := (hb1.cell (p := ⟨w.heap.size, 0, none⟩) (by show w.heap.size < _; omega)).trans i1
  replace l1 : w1.cell? ⟨lb, 0, none⟩ = some (.slice (some ⟨b, o, none⟩) gs.length cap) := (hb1.cell (p := ⟨lb, 0, none⟩) (by show lb < _; omega)).trans l1
  have z1 : w.heap.size < w1.heap.size := by have := hb1.size; omega
  clear HR hb1 s1 hX
  by_cases hx : ge = 0
  · have q : (ge != 0) = false := by simp [hx]
    have HX := hid hx
    clear hx
    go_wp2_with fail
    refine (containsG_any w1.heap.size w1 b o cap i gs ps (gaTw gs i) _ _ _ (by omega) hn8 (Nat.le_refl _) (Below.refl _ _) (by omega) (fun j h => range_later (HAt.out j h) BW (by omega)) ⟨callFunc_gas11, fun j h hji W hW => ?_⟩).mono ?_
    · have hsW := hW.size
      have := gas11_any lb w.heap.size b o cap i gs hi gs[j] (ps j) W ((hW.cell (p := ⟨lb, 0, none⟩) (by show lb < _; omega)).trans l1) ((hW.cell (p := ⟨w.heap.size, 0, none⟩) (by show w.heap.size < _; omega)).trans i1) (by omega) (by omega) (by omega) (by
        have hc := range_later (range_later (HAt.out i hi) BW (by omega)) hW (by omega)
        simpa using hc 0 (.string gs[i].name) rfl)
      refine this.mono ?_
      rintro e w' ⟨rfl, hb'⟩
      exact ⟨by unfold gaTw; rw [show gs.getD j default = gs[j] by simp [List.getD, h], show gs.getD i default = gs[i] by simp [List.getD, hi]], hb'⟩
    rintro e w' ⟨rfl, hb'⟩
    have hfin := BW.trans (hb'.mono BW.size)
    by_cases hc : 0 ≤ idxP (gaTw gs i) 0 i
    · have hc2 : decide (0 ≤ idxP (gaTw gs i) 0 i) = true := by simpa using hc
      have HC := hid hc
      rw [hc2]
      clear hc hc2 i1 l1
      go_wp2_with fail
      go_ret
      exact ⟨ret_iE (by rw [HE.out, if_neg (by simp [HX.out]), if_pos HC.out]), hfin⟩
    · have hc2 : decide (0 ≤ idxP (gaTw gs i) 0 i) = false := by simpa using hc
      have HC := hid hc
      rw [hc2]
      clear hc hc2 i1 l1
      go_wp2_with fail
      go_ret
      exact ⟨ret_iE (by rw [HE.out, if_neg (by simp [HX.out]), if_neg (by have := HC.out; omega)]), hfin⟩
  · have q : (ge != 0) = true := by simp [hx]
    have HX := hid hx
    clear hx
    go_wp2_with fail
    go_ret
    exact ⟨ret_iE (by rw [HE.out, if_pos HX.out]), BW⟩
set_option maxRecDepth 100000 in
set_option maxHeartbeats 2000000 in
theorem checkGates_any (ga : Option Addr) (gs : List Gt) (gc : Nat) (ps : Nat → GtP) (w : World) (hok : GatesOk w ga gs ps) (hlen : gs.length ≤ gc ∧ gs.length ≤ 140737488355328) :
    Calls Try.prog 39 #[.slice ga gs.length gc] w fun e w' => e = .returned (.tuple #[.int .i64 (gasP gs).1, .int .i64 (gasP gs).2]) ∧ Below w.heap.size w w' := by
  have HO := hid (show gasP gs = (firstAt 0 [mustP (inB gs.length 1 6) 0 3, eachP (gaE gs) 0 gs.length]).2 from rfl)
  generalize gasP gs = op at *
  go_enter Try.func39, Try.ntmps39
  go_wp2_with fail
  generalize hW1 : World.alloc w _ = W1
  have B1 : Below w.heap.size w W1 := by rw [← hW1]; exact (Below.refl _ _).alloc (Nat.le_refl _) _
  have hB1 : w.heap.size + 1 ≤ W1.heap.size := by rw [← hW1]; simp
  have c3 : W1.cell? ⟨w.heap.size, 0, none⟩ = some (.slice ga gs.length gc) := by rw [← hW1]; simp [go_sem]
  clear hW1
  have HI : Hid (ChkI (w.heap.size + 1) W1 86 #[.pointer (some ⟨w.heap.size, 0, none⟩)] gs.length (gaE gs)) := by
    refine hid ⟨callFunc_gas1, fun i hi W hW => ?_⟩
    obtain ⟨b, o, ha, hb, hat⟩ := hok.at_.row (by omega)
    have hWw := B1.trans (hW.mono (by omega))
    refine gas1_any (w.heap.size + 1) w.heap.size b o gc i gs hi hlen.2 ps W ?_ (by omega) (by omega) (by have := hW.size; omega) (fun j hj => range_later (hat j hj) hWw hb) (fun j hj => (hok.ok j hj).later hWw (Nat.le_refl _)) hlen.1
    rw [hW.cell (p := ⟨w.heap.size, 0, none⟩) (by show w.heap.size < _; omega), c3, ha]
  have HOk := hid hok
  clear hok
  refine wp_region_noPanic ?_
  refine wp_region_held_drew (S := (fun w' => Below (w.heap.size + 1) W1 w' ∧ w'.cell? ⟨w.heap.size, 0, none⟩ = some (.slice ga gs.length gc))) (by kernel_rfl) ?_ (fun hHeld => ?_)
  · exact ⟨(Below.refl _ _).drew, by simpa using c3⟩
  refine wpAnyH_take (i := 0) (oi := { dst := _, op := _, type := _, pos := _, after := _, guard := _ }) (v := ?_) rfl (by kernel_rfl) (by kernel_rfl) (by kernel_rfl) (fun _ _ _ h => h) (Or.inl ⟨by rfl, ?_⟩) (by assumption) ?_
  rotate_left
  · intro wS hSw; (try dsimp only at hSw); go_simp; try (with_reducible rfl)
  try simp only [Act.put, List.setIfInBounds_toArray, List.set_cons_zero, List.set_cons_succ]
  refine wpAnyH_take (i := 1) (oi := { dst := _, op := _, type := _, pos := _, after := _, guard := _ }) (v := ?_) rfl (by kernel_rfl) (by kernel_rfl) (by kernel_rfl) (fun _ _ _ h => h) (Or.inl ⟨by rfl, ?_⟩) (by assumption) ?_
  rotate_left
  · intro wS hSw; (try dsimp only at hSw); go_simp; try (with_reducible rfl)
  try simp only [Act.put, List.setIfInBounds_toArray, List.set_cons_zero, List.set_cons_succ]
  refine wpAnyH_take (i := 4) (oi := { dst := _, op := _, type := _, pos := _, after := _, guard := _ }) (v := ?_) rfl (by kernel_rfl) (by kernel_rfl) (by kernel_rfl) (fun _ _ _ h => h) (Or.inl ⟨by rfl, ?_⟩) (by assumption) ?_
  rotate_left
  · intro wS hSw; (try dsimp only at hSw); go_simp; try (with_reducible rfl)
  try simp only [Act.put, List.setIfInBounds_toArray, List.set_cons_zero, List.set_cons_succ]
  refine wpAnyH_take (i := 5) (oi := { dst := _, op := _, type := _, pos := _, after := _, guard := _ }) (v := ?_) rfl (by kernel_rfl) (by kernel_rfl) (by kernel_rfl) (fun _ _ _ h => h) (Or.inl ⟨by rfl, ?_⟩) (by assumption) ?_
  rotate_left
  · intro wS hSw; (try dsimp only at hSw); go_simp; try (with_reducible rfl)
  try simp only [Act.put, List.setIfInBounds_toArray, List.set_cons_zero, List.set_cons_succ]
  refine wpAnyH_take (i := 6) (oi := { dst := _, op := _, type := _, pos := _, after := _, guard := _ }) (v := ?_) rfl (by kernel_rfl) (by kernel_rfl) (by kernel_rfl) (fun _ _ _ h => h) (Or.inl ⟨by rfl, ?_⟩) (by assumption) ?_
  rotate_left
  · intro wS hSw; (try dsimp only at hSw); go_simp; try (with_reducible rfl)
  try simp only [Act.put, List.setIfInBounds_toArray, List.set_cons_zero, List.set_cons_succ]
  refine wpAnyH_ready (rs := [2]) (by kernel_rfl) (by simp) ?_
  refine AllReadyH.cons (o := { dst := _, op := _, type := _, pos := _, after := _, guard := _ }) rfl (fun K hK => ?_) AllReadyH.nil
  go_simp
  (go_at_call 59; refine (in_any _ _ _ _).mono ?_; rintro e w' ⟨rfl, rfl⟩)
  try go_wp2_with fail
  refine hK.out _ _ ?_ (fun hHeld => ?_)
  · (try dsimp only); first | assumption | exact keepO (by assumption) (by assumption) (Nat.lt_succ_self _) hB1 | exact keepO ((Below.refl _ _).alloc (Nat.le_refl _) _) (by assumption) (Nat.lt_succ_self _) hB1
  clear hK K
  try simp only [Act.put, List.setIfInBounds_toArray, List.set_cons_zero, List.set_cons_succ]
  refine wpAnyH_ready (rs := [3]) (by kernel_rfl) (by simp) ?_
  refine AllReadyH.cons (o := { dst := _, op := _, type := _, pos := _, after := _, guard := _ }) rfl (fun K hK => ?_) AllReadyH.nil
  go_simp
  (go_at_call 79; refine (must_any _ _ _ _).mono ?_; rintro e w' ⟨caps, rfl, hb, hchk⟩)
  try go_wp2_with fail
  refine hK.out _ _ ?_ (fun hHeld => ?_)
  · (try dsimp only); first | assumption | exact keepO (by assumption) (by assumption) (Nat.lt_succ_self _) hB1 | exact keepO ((Below.refl _ _).alloc (Nat.le_refl _) _) (by assumption) (Nat.lt_succ_self _) hB1
  clear hK K
  try simp only [Act.put, List.setIfInBounds_toArray, List.set_cons_zero, List.set_cons_succ]
  refine wpAnyH_ready (rs := [7]) (by kernel_rfl) (by simp) ?_
  refine AllReadyH.cons (o := { dst := _, op := _, type := _, pos := _, after := _, guard := _ }) rfl (fun K hK => ?_) AllReadyH.nil
  go_simp
  (go_at_call 81; refine (each_any (w.heap.size + 1) W1 gs.length (gaE gs) _ _ _ hlen.2 (keepOLe hB1 (by assumption)) (by assumption : Below (w.heap.size + 1) W1 _ ∧ _).1 HI.out).mono ?_; rintro e w' ⟨caps2, rfl, hb2, hchk2⟩)
  try go_wp2_with fail
  refine hK.out _ _ ?_ (fun hHeld => ?_)
  · (try dsimp only); first | assumption | exact keepO (by assumption) (by assumption) (Nat.lt_succ_self _) hB1 | exact keepO ((Below.refl _ _).alloc (Nat.le_refl _) _) (by assumption) (Nat.lt_succ_self _) hB1
  clear hK K
  try simp only [Act.put, List.setIfInBounds_toArray, List.set_cons_zero, List.set_cons_succ]
  refine wpAnyH_ready (rs := [8]) (by kernel_rfl) (by simp) ?_
  refine AllReadyH.cons (o := { dst := _, op := _, type := _, pos := _, after := _, guard := _ }) rfl (fun K hK => ?_) AllReadyH.nil
  go_simp
  refine hK.out _ _ ?_ (fun hHeld => ?_)
  · (try dsimp only); first | assumption | exact keepO (by assumption) (by assumption) (Nat.lt_succ_self _) hB1 | exact keepO ((Below.refl _ _).alloc (Nat.le_refl _) _) (by assumption) (Nat.lt_succ_self _) hB1
  clear hK K
  try simp only [Act.put, List.setIfInBounds_toArray, List.set_cons_zero, List.set_cons_succ]
  refine wpAnyH_ready (rs := [9]) (by kernel_rfl) (by simp) ?_
  refine AllReadyH.cons (o := { dst := _, op := _, type := _, pos := _, after := _, guard := _ }) rfl (fun K hK => ?_) AllReadyH.nil
  go_simp
  (go_at_call 37; refine (first2_chain _ hchk hb2 hchk2).mono ?_; rintro e w' ⟨rfl, hb3⟩)
  try go_wp2_with fail
  refine hK.out _ _ ?_ (fun hHeld => ?_)
  · (try dsimp only); first | assumption | exact keepO (by assumption) (by assumption) (Nat.lt_succ_self _) hB1 | exact keepO ((Below.refl _ _).alloc (Nat.le_refl _) _) (by assumption) (Nat.lt_succ_self _) hB1
  clear hK K
  try simp only [Act.put, List.setIfInBounds_toArray, List.set_cons_zero, List.set_cons_succ]
  refine wpAnyH_take (i := 10) (oi := { dst := _, op := _, type := _, pos := _, after := _, guard := _ }) (v := ?_) rfl (by kernel_rfl) (by kernel_rfl) (by kernel_rfl) (fun _ _ _ h => h) (Or.inl ⟨by rfl, ?_⟩) (by assumption) ?_
  rotate_left
  · intro wS hSw; (try dsimp only at hSw); go_simp; try (with_reducible rfl)
  try simp only [Act.put, List.setIfInBounds_toArray, List.set_cons_zero, List.set_cons_succ]
  refine wpAnyH_take (i := 11) (oi := { dst := _, op := _, type := _, pos := _, after := _, guard := _ }) (v := ?_) rfl (by kernel_rfl) (by kernel_rfl) (by kernel_rfl) (fun _ _ _ h => h) (Or.inl ⟨by rfl, ?_⟩) (by assumption) ?_
  rotate_left
  · intro wS hSw; (try dsimp only at hSw); go_simp; try (with_reducible rfl)
  try simp only [Act.put, List.setIfInBounds_toArray, List.set_cons_zero, List.set_cons_succ]
  refine wpAnyH_take (i := 12) (oi := { dst := _, op := _, type := _, pos := _, after := _, guard := _ }) (v := ?_) rfl (by kernel_rfl) (by kernel_rfl) (by kernel_rfl) (fun _ _ _ h => h) (Or.inl ⟨by rfl, ?_⟩) (by assumption) ?_
  rotate_left
  · intro wS hSw; (try dsimp only at hSw); go_simp; try (with_reducible rfl)
  try simp only [Act.put, List.setIfInBounds_toArray, List.set_cons_zero, List.set_cons_succ]
  refine wpAnyH_take (i := 13) (oi := { dst := _, op := _, type := _, pos := _, after := _, guard := _ }) (v := ?_) rfl (by kernel_rfl) (by kernel_rfl) (by kernel_rfl) (fun _ _ _ h => h) (Or.inl ⟨by rfl, ?_⟩) (by assumption) ?_
  rotate_left
  · intro wS hSw; (try dsimp only at hSw); go_simp; try (with_reducible rfl)
  try simp only [Act.put, List.setIfInBounds_toArray, List.set_cons_zero, List.set_cons_succ]
  refine wpAnyH_take (i := 14) (oi := { dst := _, op := _, type := _, pos := _, after := _, guard := _ }) (v := ?_) rfl (by kernel_rfl) (by kernel_rfl) (by kernel_rfl) (fun _ _ _ h => h) (Or.inl ⟨by rfl, ?_⟩) (by assumption) ?_
  rotate_left
  · intro wS hSw; (try dsimp only at hSw); go_simp; try (with_reducible rfl)
  try simp only [Act.put, List.setIfInBounds_toArray, List.set_cons_zero, List.set_cons_succ]
  refine wpAnyH_take (i := 15) (oi := { dst := _, op := _, type := _, pos := _, after := _, guard := _ }) (v := ?_) rfl (by kernel_rfl) (by kernel_rfl) (by kernel_rfl) (fun _ _ _ h => h) (Or.inl ⟨by rfl, ?_⟩) (by assumption) ?_
  rotate_left
  · intro wS hSw; (try dsimp only at hSw); go_simp; try (with_reducible rfl)
  try simp only [Act.put, List.setIfInBounds_toArray, List.set_cons_zero, List.set_cons_succ]
  refine wpAnyH_done (by kernel_rfl) ?_ _
  refine NoPanic.normal ?_
  have hfin := (by assumption : Below (w.heap.size + 1) W1 _ ∧ World.cell? _ ⟨w.heap.size, 0, none⟩ = some (.slice ga gs.length gc)).1
  generalize firstAt 0 _ = r at *
  go_wp2_with fail
  go_ret2
  exact ⟨ret_two (by rw [HO.out]) (by rw [HO.out]), B1.trans (hfin.mono (by omega))⟩
end Go.Proofs.Ytpgggffcpcjahaa
