/- Gate, part VC: the check of a gate: its head and its own forces. -/
import Derived.Test.YtdoklolinbmhpaaGreatVB
import Derived.Test.YtdoklolinbmhpaaGreatUB
import Derived.Test.YtdoklolinbmhpaaGreatUR
import Derived.Lib.MinMax
import Derived.Deep.RegionHeld3
set_option linter.all false
namespace Go.Proofs.YtdoklolinbmhpaaGreat
open Go.RowKit

theorem nameV (b : Bool) (s : ByteArray) (w : World) (hs : s.size ≤ maxLen) (h : nameB s.data.toList = b) :
    Calls Tryz.prog 118 #[.string s] w fun e w' => e = .returned (.bool b) ∧ w = w' := by rw [← h]; exact name_any s w hs
theorem range_cell {w : World} {b j : Nat} {cs : List Value} {v : Value} (h : w.rangeAt b 0 cs) (hv : cs[j]? = some v) : w.cell? ⟨b, j, none⟩ = some v := by simpa using h j v hv
theorem ret_two {a b c d : Int} (h : a = b) (k : c = d) : Ending.returned (.tuple #[.int .i64 a, .int .i64 c]) = Ending.returned (.tuple #[.int .i64 b, .int .i64 d]) := by rw [h, k]
theorem ret_iE {a b : Int} (h : a = b) : Ending.returned (.int .i64 a) = .returned (.int .i64 b) := by rw [h]

set_option maxRecDepth 100000 in
set_option maxHeartbeats 400000 in
theorem headError_any (g : Gt) (p : GtP) (w : World) (hn : g.name.size ≤ maxLen) :
    Calls Tryz.prog 92 #[.agg (gtL g p).toArray] w fun e w' => e = .returned (.int .i64 (headE g)) ∧ Below w.heap.size w w' := by
  obtain ⟨a, ha⟩ : ∃ a, nameB g.name.data.toList = a := ⟨_, rfl⟩
  obtain ⟨b, hb⟩ : ∃ b, inB g.kind 1 3 = b := ⟨_, rfl⟩
  obtain ⟨c, hc⟩ : ∃ c, inB g.travel 1 5000 = c := ⟨_, rfl⟩
  have HE := hid (show headE g = if a = false then 6 else if b = false then 2 else if c = false then 7 else 0 by rw [← ha, ← hb, ← hc]; rfl)
  have HA := hid ha; have HB := hid hb; have HC := hid hc
  clear ha hb hc
  have k0 : (gtL g p)[0]? = some (.string g.name) := rfl
  have k1 : (gtL g p)[1]? = some (.int .i64 g.kind) := rfl
  have k2 : (gtL g p)[2]? = some (.int .i64 g.travel) := rfl
  cases a
  · go_enter Tryz.func92, Tryz.ntmps92
    go_wp2_with (go_at_call 118; (with_reducible refine (nameV _ _ _ hn HA.out).mono ?_); rintro e w' ⟨rfl, rfl⟩)
    go_ret
    exact ⟨ret_iE (by rw [HE.out]; rfl), (Below.refl _ _).alloc (Nat.le_refl _) _⟩
  cases b
  · go_enter Tryz.func92, Tryz.ntmps92
    go_wp2_with (first | (go_at_call 118; (with_reducible refine (nameV _ _ _ hn HA.out).mono ?_); rintro e w' ⟨rfl, rfl⟩) | (go_at_call 73; (with_reducible refine (in_val _ _ _ _ _ HB.out).mono ?_); rintro e w' ⟨rfl, rfl⟩))
    go_ret
    exact ⟨ret_iE (by rw [HE.out]; rfl), (Below.refl _ _).alloc (Nat.le_refl _) _⟩
  cases c
  all_goals
    go_enter Tryz.func92, Tryz.ntmps92
    go_wp2_with (first | (go_at_call 118; (with_reducible refine (nameV _ _ _ hn HA.out).mono ?_); rintro e w' ⟨rfl, rfl⟩) | (go_at_call 73; (with_reducible refine (in_val _ _ _ _ _ HB.out).mono ?_); rintro e w' ⟨rfl, rfl⟩) | (go_at_call 73; (with_reducible refine (in_val _ _ _ _ _ HC.out).mono ?_); rintro e w' ⟨rfl, rfl⟩))
    go_ret
    exact ⟨ret_iE (by rw [HE.out]; rfl), (Below.refl _ _).alloc (Nat.le_refl _) _⟩

theorem suits_any (k f : Int) (w : World) :
    Calls Tryz.prog 120 #[.int .i64 k, .int .i64 f] w fun e w' => e = .returned (.bool (suitsB k f)) ∧ w = w' := by
  have HS := hid (show suitsB k f = if k = 2 then decide (0 ≤ f) else if k = 3 then decide (f ≤ 0) else decide (f = 0) from rfl)
  by_cases h2 : k = 2
  · have q : (k == 2) = true := by simp [h2]
    have H2 := hid h2; clear h2
    go_enter Tryz.func120, Tryz.ntmps120
    go_wp2
    go_ret
    exact ⟨ret_bool (by rw [HS.out, if_pos H2.out]), rfl⟩
  have q : (k == 2) = false := by simp [h2]
  have H2 := hid h2; clear h2
  by_cases h3 : k = 3
  · have q3 : (k == 3) = true := by simp [h3]
    have H3 := hid h3; clear h3
    go_enter Tryz.func120, Tryz.ntmps120
    go_wp2
    go_ret
    exact ⟨ret_bool (by rw [HS.out, if_neg H2.out, if_pos H3.out]), rfl⟩
  have q3 : (k == 3) = false := by simp [h3]
  have H3 := hid h3; clear h3
  go_enter Tryz.func120, Tryz.ntmps120
  go_wp2
  go_ret
  exact ⟨ret_bool (by rw [HS.out, if_neg H2.out, if_neg H3.out]; by_cases h : f = 0 <;> simp [h]), rfl⟩
theorem suitsV (b : Bool) (k f : Int) (w : World) (h : suitsB k f = b) :
    Calls Tryz.prog 120 #[.int .i64 k, .int .i64 f] w fun e w' => e = .returned (.bool b) ∧ w = w' := by rw [← h]; exact suits_any k f w

theorem callFunc_own1 (args : Array Value) (w : World) : (callFunc 119 args).run Tryz.prog w = .ok (.enter 119 args) w := by simp [go_sem]
set_option maxRecDepth 100000 in
set_option maxHeartbeats 1000000 in
theorem checkOwn1_any (tb i : Nat) (g : Gt) (p : GtP) (hi : i < g.own.length) (w : World) (h1 : w.cell? ⟨tb, 1, none⟩ = some (.int .i64 g.kind)) (h3 : w.cell? ⟨tb, 3, none⟩ = some (.slice p.oa g.own.length p.oc)) (hat : IntsAt w p.oa g.own) :
    Calls Tryz.prog 119 #[.int .i64 i, .pointer (some ⟨tb, 0, none⟩)] w fun e w' => e = .returned (.int .i64 (ownE g i)) ∧ Below w.heap.size w w' := by
  rcases hat with h0 | ⟨b, o, ha, hs, hc⟩
  · rw [h0] at hi; simp at hi
  have hcell := hc i hi
  have e : ownE g i = if inB g.own[i] (-200000) 200000 = false then 7 else if suitsB g.kind g.own[i] = false then 2 else 0 := by unfold ownE; simp [List.getD, hi]
  rw [ha] at h3
  generalize g.own[i] = x at *
  generalize ownE g i = y at *
  obtain ⟨c, hc'⟩ : ∃ c, inB x (-200000) 200000 = c := ⟨_, rfl⟩
  obtain ⟨d, hd⟩ : ∃ d, suitsB g.kind x = d := ⟨_, rfl⟩
  rw [hc', hd] at e
  have HE := hid e; have HC := hid hc'; have HD := hid hd
  have hii : (i : Int) < (g.own.length : Int) := by omega
  have hi0 : (0 : Int) ≤ (i : Int) := Int.natCast_nonneg _
  clear e hc' hd hc ha
  cases c
  · go_enter Tryz.func119, Tryz.ntmps119
    go_wp2_with (go_at_call 73; refine (in_val _ _ _ _ _ HC.out).mono ?_; rintro e w' ⟨rfl, rfl⟩)
    go_ret
    exact ⟨ret_iE (by rw [HE.out]; rfl), Below.refl _ _⟩
  cases d
  all_goals
    go_enter Tryz.func119, Tryz.ntmps119
    go_wp2_with (go_at_call 73; refine (in_val _ _ _ _ _ HC.out).mono ?_; rintro e w' ⟨rfl, rfl⟩)
    refine wp_region_noPanic ?_
    refine wp_region_held_drew (S := (fun w' => Below w.heap.size w w' ∧ w'.cell? ⟨tb, 1, none⟩ = some (.int .i64 g.kind) ∧ w'.cell? ⟨tb, 3, none⟩ = some (.slice (some ⟨b, o, none⟩) g.own.length p.oc) ∧ w'.cell? ⟨b, o + i, none⟩ = some (.int .i64 x))) (by kernel_rfl) ?_ (fun hHeld => ?_)
    · exact ⟨(Below.refl _ _).drew, by simpa using h1, by simpa using h3, by simpa using hcell⟩
    refine wpAnyH_take (i := 0) (oi := { dst := _, op := _, type := _, pos := _, after := _, guard := _ }) (v := ?_) rfl (by kernel_rfl) (by kernel_rfl) (by kernel_rfl) (fun _ _ _ h => h) (Or.inl ⟨by rfl, ?_⟩) (by assumption) ?_
    rotate_left
    · intro wS hSw; (try dsimp only at hSw); go_simp; try (with_reducible rfl)
    try simp only [Act.put, List.setIfInBounds_toArray, List.set_cons_zero, List.set_cons_succ]
    refine wpAnyH_take (i := 1) (oi := { dst := _, op := _, type := _, pos := _, after := _, guard := _ }) (v := ?_) rfl (by kernel_rfl) (by kernel_rfl) (by kernel_rfl) (fun _ _ _ h => h) (Or.inl ⟨by rfl, ?_⟩) (by assumption) ?_
    rotate_left
    · intro wS hSw; (try dsimp only at hSw); go_simp; try (with_reducible rfl)
    try simp only [Act.put, List.setIfInBounds_toArray, List.set_cons_zero, List.set_cons_succ]
    refine wpAnyH_take (i := 2) (oi := { dst := _, op := _, type := _, pos := _, after := _, guard := _ }) (v := ?_) rfl (by kernel_rfl) (by kernel_rfl) (by kernel_rfl) (fun _ _ _ h => h) (Or.inl ⟨by rfl, ?_⟩) (by assumption) ?_
    rotate_left
    · intro wS hSw; (try dsimp only at hSw); go_simp; try (with_reducible rfl)
    try simp only [Act.put, List.setIfInBounds_toArray, List.set_cons_zero, List.set_cons_succ]
    refine wpAnyH_take (i := 3) (oi := { dst := _, op := _, type := _, pos := _, after := _, guard := _ }) (v := ?_) rfl (by kernel_rfl) (by kernel_rfl) (by kernel_rfl) (fun _ _ _ h => h) (Or.inl ⟨by rfl, ?_⟩) (by assumption) ?_
    rotate_left
    · intro wS hSw; (try dsimp only at hSw); go_simp; try (with_reducible rfl)
    try simp only [Act.put, List.setIfInBounds_toArray, List.set_cons_zero, List.set_cons_succ]
    refine wpAnyH_take (i := 4) (oi := { dst := _, op := _, type := _, pos := _, after := _, guard := _ }) (v := ?_) rfl (by kernel_rfl) (by kernel_rfl) (by kernel_rfl) (fun _ _ _ h => h) (Or.inl ⟨by rfl, ?_⟩) (by assumption) ?_
    rotate_left
    · intro wS hSw; (try dsimp only at hSw); go_simp; try (with_reducible rfl)
    try simp only [Act.put, List.setIfInBounds_toArray, List.set_cons_zero, List.set_cons_succ]
    refine wpAnyH_take (i := 5) (oi := { dst := _, op := _, type := _, pos := _, after := _, guard := _ }) (v := ?_) rfl (by kernel_rfl) (by kernel_rfl) (by kernel_rfl) (fun _ _ _ h => h) (Or.inl ⟨by rfl, ?_⟩) (by assumption) ?_
    rotate_left
    · intro wS hSw; (try dsimp only at hSw); go_simp; try (with_reducible rfl)
    try simp only [Act.put, List.setIfInBounds_toArray, List.set_cons_zero, List.set_cons_succ]
    refine wpAnyH_take (i := 6) (oi := { dst := _, op := _, type := _, pos := _, after := _, guard := _ }) (v := ?_) rfl (by kernel_rfl) (by kernel_rfl) (by kernel_rfl) (fun _ _ _ h => h) (Or.inl ⟨by rfl, ?_⟩) (by assumption) ?_
    rotate_left
    · intro wS hSw; (try dsimp only at hSw); go_simp; try (with_reducible rfl)
    try simp only [Act.put, List.setIfInBounds_toArray, List.set_cons_zero, List.set_cons_succ]
    refine wpAnyH_ready (rs := [7]) (by kernel_rfl) (by simp) ?_
    refine AllReadyH.cons (o := { dst := _, op := _, type := _, pos := _, after := _, guard := _ }) rfl (fun K hK => ?_) AllReadyH.nil
    go_simp
    (go_at_call 120; refine (suitsV _ _ _ _ HD.out).mono ?_; rintro e w' ⟨rfl, rfl⟩)
    try go_wp2_with fail
    refine hK.out _ _ ?_ (fun hHeld => ?_)
    · (try dsimp only); assumption
    clear hK K
    try simp only [Act.put, List.setIfInBounds_toArray, List.set_cons_zero, List.set_cons_succ]
    refine wpAnyH_take (i := 8) (oi := { dst := _, op := _, type := _, pos := _, after := _, guard := _ }) (v := ?_) rfl (by kernel_rfl) (by kernel_rfl) (by kernel_rfl) (fun _ _ _ h => h) (Or.inl ⟨by rfl, ?_⟩) (by assumption) ?_
    rotate_left
    · intro wS hSw; (try dsimp only at hSw); go_simp; try (with_reducible rfl)
    try simp only [Act.put, List.setIfInBounds_toArray, List.set_cons_zero, List.set_cons_succ]
    refine wpAnyH_take (i := 9) (oi := { dst := _, op := _, type := _, pos := _, after := _, guard := _ }) (v := ?_) rfl (by kernel_rfl) (by kernel_rfl) (by kernel_rfl) (fun _ _ _ h => h) (Or.inl ⟨by rfl, ?_⟩) (by assumption) ?_
    rotate_left
    · intro wS hSw; (try dsimp only at hSw); go_simp; try (with_reducible rfl)
    try simp only [Act.put, List.setIfInBounds_toArray, List.set_cons_zero, List.set_cons_succ]
    refine wpAnyH_done (by kernel_rfl) ?_ _
    refine NoPanic.normal ?_
    have hfin := (by assumption : Below w.heap.size w _ ∧ World.cell? _ ⟨tb, 1, none⟩ = some (.int .i64 g.kind) ∧ _ ∧ _).1
    go_wp2_with fail
    go_ret
    exact ⟨ret_iE (by rw [HE.out]; rfl), hfin⟩

/-- A cell of a box, while memory is made. -/
theorem keepO {B : Nat} {W1 W w1 : World} {q : Addr} {x : Value} (hb : Below W.heap.size W w1) (h : Below B W1 W ∧ W.cell? q = some x) (hq : q.block < B) (hB : B ≤ W1.heap.size) : Below B W1 w1 ∧ w1.cell? q = some x := by
  have hs := Nat.le_trans hB h.1.size
  exact ⟨h.1.trans (hb.mono hs), (hb.cell (by show q.block < W.heap.size; omega)).trans h.2⟩
theorem keepOLe {B : Nat} {W1 W : World} {q : Addr} {x : Value} (hB : B ≤ W1.heap.size) (h : Below B W1 W ∧ W.cell? q = some x) : B ≤ W.heap.size := Nat.le_trans hB h.1.size
set_option maxRecDepth 100000 in
set_option maxHeartbeats 2000000 in
theorem checkOwn_any (g : Gt) (p : GtP) (w : World) (hwf : GtWf g p) (hat : IntsAt w p.oa g.own) :
    Calls Tryz.prog 94 #[.agg (gtL g p).toArray] w fun e w' => e = .returned (.tuple #[.int .i64 (ownP g).1, .int .i64 (ownP g).2]) ∧ Below w.heap.size w w' := by
  have HO := hid (show ownP g = (firstAt 0 [mustP (inB g.own.length 2 16) 0 3, eachP (ownE g) 0 g.own.length]).2 from rfl)
  generalize ownP g = op at *
  have k1 : (gtL g p)[1]? = some (.int .i64 g.kind) := rfl
  have k3 : (gtL g p)[3]? = some (.slice p.oa g.own.length p.oc) := rfl
  go_enter Tryz.func94, Tryz.ntmps94
  go_wp2_with fail
  have R := range_alloc w (gtL g p) 25
  generalize hW1 : World.alloc w _ = W1
  have B1 : Below w.heap.size w W1 := by rw [← hW1]; exact (Below.refl _ _).alloc (Nat.le_refl _) _
  have hB1 : w.heap.size + 1 ≤ W1.heap.size := by rw [← hW1]; simp
  rw [hW1] at R
  have c1 := range_cell R k1
  have c3 := range_cell R k3
  clear hW1 R k1 k3
  have HI : Hid (ChkI (w.heap.size + 1) W1 119 #[.pointer (some ⟨w.heap.size, 0, none⟩)] g.own.length (ownE g)) :=
    hid ⟨callFunc_own1, fun i hi W hW => checkOwn1_any _ i g p hi W ((hW.cell (p := ⟨w.heap.size, 1, none⟩) (by show w.heap.size < _; omega)).trans c1) ((hW.cell (p := ⟨w.heap.size, 3, none⟩) (by show w.heap.size < _; omega)).trans c3) (hat.later (B1.trans (hW.mono (by omega))) (Nat.le_refl _))⟩
  refine wp_region_noPanic ?_
  refine wp_region_held_drew (S := (fun w' => Below (w.heap.size + 1) W1 w' ∧ w'.cell? ⟨w.heap.size, 3, none⟩ = some (.slice p.oa g.own.length p.oc))) (by kernel_rfl) ?_ (fun hHeld => ?_)
  · exact ⟨(Below.refl _ _).drew, by simpa using c3⟩
  refine wpAnyH_take (i := 0) (oi := { dst := _, op := _, type := _, pos := _, after := _, guard := _ }) (v := ?_) rfl (by kernel_rfl) (by kernel_rfl) (by kernel_rfl) (fun _ _ _ h => h) (Or.inl ⟨by rfl, ?_⟩) (by assumption) ?_
  rotate_left
  · intro wS hSw; (try dsimp only at hSw); go_simp; try (with_reducible rfl)
  try simp only [Act.put, List.setIfInBounds_toArray, List.set_cons_zero, List.set_cons_succ]
  refine wpAnyH_take (i := 1) (oi := { dst := _, op := _, type := _, pos := _, after := _, guard := _ }) (v := ?_) rfl (by kernel_rfl) (by kernel_rfl) (by kernel_rfl) (fun _ _ _ h => h) (Or.inl ⟨by rfl, ?_⟩) (by assumption) ?_
  rotate_left
  · intro wS hSw; (try dsimp only at hSw); go_simp; try (with_reducible rfl)
  try simp only [Act.put, List.setIfInBounds_toArray, List.set_cons_zero, List.set_cons_succ]
  refine wpAnyH_take (i := 2) (oi := { dst := _, op := _, type := _, pos := _, after := _, guard := _ }) (v := ?_) rfl (by kernel_rfl) (by kernel_rfl) (by kernel_rfl) (fun _ _ _ h => h) (Or.inl ⟨by rfl, ?_⟩) (by assumption) ?_
  rotate_left
  · intro wS hSw; (try dsimp only at hSw); go_simp; try (with_reducible rfl)
  try simp only [Act.put, List.setIfInBounds_toArray, List.set_cons_zero, List.set_cons_succ]
  refine wpAnyH_take (i := 5) (oi := { dst := _, op := _, type := _, pos := _, after := _, guard := _ }) (v := ?_) rfl (by kernel_rfl) (by kernel_rfl) (by kernel_rfl) (fun _ _ _ h => h) (Or.inl ⟨by rfl, ?_⟩) (by assumption) ?_
  rotate_left
  · intro wS hSw; (try dsimp only at hSw); go_simp; try (with_reducible rfl)
  try simp only [Act.put, List.setIfInBounds_toArray, List.set_cons_zero, List.set_cons_succ]
  refine wpAnyH_take (i := 6) (oi := { dst := _, op := _, type := _, pos := _, after := _, guard := _ }) (v := ?_) rfl (by kernel_rfl) (by kernel_rfl) (by kernel_rfl) (fun _ _ _ h => h) (Or.inl ⟨by rfl, ?_⟩) (by assumption) ?_
  rotate_left
  · intro wS hSw; (try dsimp only at hSw); go_simp; try (with_reducible rfl)
  try simp only [Act.put, List.setIfInBounds_toArray, List.set_cons_zero, List.set_cons_succ]
  refine wpAnyH_take (i := 7) (oi := { dst := _, op := _, type := _, pos := _, after := _, guard := _ }) (v := ?_) rfl (by kernel_rfl) (by kernel_rfl) (by kernel_rfl) (fun _ _ _ h => h) (Or.inl ⟨by rfl, ?_⟩) (by assumption) ?_
  rotate_left
  · intro wS hSw; (try dsimp only at hSw); go_simp; try (with_reducible rfl)
  try simp only [Act.put, List.setIfInBounds_toArray, List.set_cons_zero, List.set_cons_succ]
  refine wpAnyH_take (i := 8) (oi := { dst := _, op := _, type := _, pos := _, after := _, guard := _ }) (v := ?_) rfl (by kernel_rfl) (by kernel_rfl) (by kernel_rfl) (fun _ _ _ h => h) (Or.inl ⟨by rfl, ?_⟩) (by assumption) ?_
  rotate_left
  · intro wS hSw; (try dsimp only at hSw); go_simp; try (with_reducible rfl)
  try simp only [Act.put, List.setIfInBounds_toArray, List.set_cons_zero, List.set_cons_succ]
  refine wpAnyH_ready (rs := [3]) (by kernel_rfl) (by simp) ?_
  refine AllReadyH.cons (o := { dst := _, op := _, type := _, pos := _, after := _, guard := _ }) rfl (fun K hK => ?_) AllReadyH.nil
  go_simp
  (go_at_call 73; refine (in_any _ _ _ _).mono ?_; rintro e w' ⟨rfl, rfl⟩)
  try go_wp2_with fail
  refine hK.out _ _ ?_ (fun hHeld => ?_)
  · (try dsimp only); first | assumption | exact keepO (by assumption) (by assumption) (Nat.lt_succ_self _) hB1 | exact keepO ((Below.refl _ _).alloc (Nat.le_refl _) _) (by assumption) (Nat.lt_succ_self _) hB1
  clear hK K
  try simp only [Act.put, List.setIfInBounds_toArray, List.set_cons_zero, List.set_cons_succ]
  refine wpAnyH_ready (rs := [4]) (by kernel_rfl) (by simp) ?_
  refine AllReadyH.cons (o := { dst := _, op := _, type := _, pos := _, after := _, guard := _ }) rfl (fun K hK => ?_) AllReadyH.nil
  go_simp
  (go_at_call 35; refine (must_any _ _ _ _).mono ?_; rintro e w' ⟨caps, rfl, hb, hchk⟩)
  try go_wp2_with fail
  refine hK.out _ _ ?_ (fun hHeld => ?_)
  · (try dsimp only); first | assumption | exact keepO (by assumption) (by assumption) (Nat.lt_succ_self _) hB1 | exact keepO ((Below.refl _ _).alloc (Nat.le_refl _) _) (by assumption) (Nat.lt_succ_self _) hB1
  clear hK K
  try simp only [Act.put, List.setIfInBounds_toArray, List.set_cons_zero, List.set_cons_succ]
  refine wpAnyH_ready (rs := [9]) (by kernel_rfl) (by simp) ?_
  refine AllReadyH.cons (o := { dst := _, op := _, type := _, pos := _, after := _, guard := _ }) rfl (fun K hK => ?_) AllReadyH.nil
  go_simp
  (go_at_call 38; refine (each_any (w.heap.size + 1) W1 g.own.length (ownE g) _ _ _ hwf.ocap (keepOLe hB1 (by assumption)) (by assumption : Below (w.heap.size + 1) W1 _ ∧ _).1 HI.out).mono ?_; rintro e w' ⟨caps2, rfl, hb2, hchk2⟩)
  try go_wp2_with fail
  refine hK.out _ _ ?_ (fun hHeld => ?_)
  · (try dsimp only); first | assumption | exact keepO (by assumption) (by assumption) (Nat.lt_succ_self _) hB1 | exact keepO ((Below.refl _ _).alloc (Nat.le_refl _) _) (by assumption) (Nat.lt_succ_self _) hB1
  clear hK K
  try simp only [Act.put, List.setIfInBounds_toArray, List.set_cons_zero, List.set_cons_succ]
  refine wpAnyH_ready (rs := [10]) (by kernel_rfl) (by simp) ?_
  refine AllReadyH.cons (o := { dst := _, op := _, type := _, pos := _, after := _, guard := _ }) rfl (fun K hK => ?_) AllReadyH.nil
  go_simp
  refine hK.out _ _ ?_ (fun hHeld => ?_)
  · (try dsimp only); first | assumption | exact keepO (by assumption) (by assumption) (Nat.lt_succ_self _) hB1 | exact keepO ((Below.refl _ _).alloc (Nat.le_refl _) _) (by assumption) (Nat.lt_succ_self _) hB1
  clear hK K
  try simp only [Act.put, List.setIfInBounds_toArray, List.set_cons_zero, List.set_cons_succ]
  refine wpAnyH_ready (rs := [11]) (by kernel_rfl) (by simp) ?_
  refine AllReadyH.cons (o := { dst := _, op := _, type := _, pos := _, after := _, guard := _ }) rfl (fun K hK => ?_) AllReadyH.nil
  go_simp
  (go_at_call 33; refine (first2_chain _ hchk hb2 hchk2).mono ?_; rintro e w' ⟨rfl, hb3⟩)
  try go_wp2_with fail
  refine hK.out _ _ ?_ (fun hHeld => ?_)
  · (try dsimp only); first | assumption | exact keepO (by assumption) (by assumption) (Nat.lt_succ_self _) hB1 | exact keepO ((Below.refl _ _).alloc (Nat.le_refl _) _) (by assumption) (Nat.lt_succ_self _) hB1
  clear hK K
  try simp only [Act.put, List.setIfInBounds_toArray, List.set_cons_zero, List.set_cons_succ]
  refine wpAnyH_take (i := 12) (oi := { dst := _, op := _, type := _, pos := _, after := _, guard := _ }) (v := ?_) rfl (by kernel_rfl) (by kernel_rfl) (by kernel_rfl) (fun _ _ _ h => h) (Or.inl ⟨by rfl, ?_⟩) (by assumption) ?_
  rotate_left
  · intro wS hSw; (try dsimp only at hSw); go_simp; try (with_reducible rfl)
  try simp only [Act.put, List.setIfInBounds_toArray, List.set_cons_zero, List.set_cons_succ]
  refine wpAnyH_take (i := 13) (oi := { dst := _, op := _, type := _, pos := _, after := _, guard := _ }) (v := ?_) rfl (by kernel_rfl) (by kernel_rfl) (by kernel_rfl) (fun _ _ _ h => h) (Or.inl ⟨by rfl, ?_⟩) (by assumption) ?_
  rotate_left
  · intro wS hSw; (try dsimp only at hSw); go_simp; try (with_reducible rfl)
  try simp only [Act.put, List.setIfInBounds_toArray, List.set_cons_zero, List.set_cons_succ]
  refine wpAnyH_take (i := 14) (oi := { dst := _, op := _, type := _, pos := _, after := _, guard := _ }) (v := ?_) rfl (by kernel_rfl) (by kernel_rfl) (by kernel_rfl) (fun _ _ _ h => h) (Or.inl ⟨by rfl, ?_⟩) (by assumption) ?_
  rotate_left
  · intro wS hSw; (try dsimp only at hSw); go_simp; try (with_reducible rfl)
  try simp only [Act.put, List.setIfInBounds_toArray, List.set_cons_zero, List.set_cons_succ]
  refine wpAnyH_take (i := 15) (oi := { dst := _, op := _, type := _, pos := _, after := _, guard := _ }) (v := ?_) rfl (by kernel_rfl) (by kernel_rfl) (by kernel_rfl) (fun _ _ _ h => h) (Or.inl ⟨by rfl, ?_⟩) (by assumption) ?_
  rotate_left
  · intro wS hSw; (try dsimp only at hSw); go_simp; try (with_reducible rfl)
  try simp only [Act.put, List.setIfInBounds_toArray, List.set_cons_zero, List.set_cons_succ]
  refine wpAnyH_take (i := 16) (oi := { dst := _, op := _, type := _, pos := _, after := _, guard := _ }) (v := ?_) rfl (by kernel_rfl) (by kernel_rfl) (by kernel_rfl) (fun _ _ _ h => h) (Or.inl ⟨by rfl, ?_⟩) (by assumption) ?_
  rotate_left
  · intro wS hSw; (try dsimp only at hSw); go_simp; try (with_reducible rfl)
  try simp only [Act.put, List.setIfInBounds_toArray, List.set_cons_zero, List.set_cons_succ]
  refine wpAnyH_take (i := 17) (oi := { dst := _, op := _, type := _, pos := _, after := _, guard := _ }) (v := ?_) rfl (by kernel_rfl) (by kernel_rfl) (by kernel_rfl) (fun _ _ _ h => h) (Or.inl ⟨by rfl, ?_⟩) (by assumption) ?_
  rotate_left
  · intro wS hSw; (try dsimp only at hSw); go_simp; try (with_reducible rfl)
  try simp only [Act.put, List.setIfInBounds_toArray, List.set_cons_zero, List.set_cons_succ]
  refine wpAnyH_done (by kernel_rfl) ?_ _
  refine NoPanic.normal ?_
  have hfin := (by assumption : Below (w.heap.size + 1) W1 _ ∧ World.cell? _ ⟨w.heap.size, 3, none⟩ = some (.slice p.oa g.own.length p.oc)).1
  generalize firstAt 0 _ = r at *
  go_wp2_with fail
  go_ret2
  exact ⟨ret_two (by rw [HO.out]) (by rw [HO.out]), B1.trans (hfin.mono (by omega))⟩
end Go.Proofs.YtdoklolinbmhpaaGreat
