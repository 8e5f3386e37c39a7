/- Gate, part VE: the check of a gate's numbers, whole. -/
import Derived.Test.YtdoklolinbmhpaaGreatVD
set_option linter.all false
namespace Go.Proofs.YtdoklolinbmhpaaGreat
open Go.RowKit

theorem areLevels_any (a b : Int) (w : World) :
    Calls Tryz.prog 75 #[.int .i64 a, .int .i64 b] w fun e w' => e = .returned (.bool (inB a (-20000) 20000 && inB b (-20000) 20000)) ∧ w = w' := by
  obtain ⟨x, hx⟩ : ∃ x, inB a (-20000) 20000 = x := ⟨_, rfl⟩
  obtain ⟨y, hy⟩ : ∃ y, inB b (-20000) 20000 = y := ⟨_, rfl⟩
  rw [hx, hy]
  have c1 := fun w => isLevel_any a w
  have c2 := fun w => isLevel_any b w
  rw [hx] at c1; rw [hy] at c2
  have C1 := hid c1; have C2 := hid c2
  clear c1 c2 hx hy
  cases x
  · go_enter Tryz.func75, Tryz.ntmps75
    go_wp2_with ((with_reducible refine (C1.out _).mono ?_); rintro e w' ⟨rfl, rfl⟩)
    go_ret
    exact ⟨rfl, rfl⟩
  cases y
  all_goals
    go_enter Tryz.func75, Tryz.ntmps75
    go_wp2_with (first | ((with_reducible refine (C1.out _).mono ?_); rintro e w' ⟨rfl, rfl⟩) | ((with_reducible refine (C2.out _).mono ?_); rintro e w' ⟨rfl, rfl⟩))
    go_ret
    exact ⟨rfl, rfl⟩

theorem wrap_bd (x : Int) : -9223372036854775808 ≤ IntKind.i64.wrap x ∧ IntKind.i64.wrap x ≤ 9223372036854775807 := by
  have e : IntKind.i64.wrap x = if x % 18446744073709551616 ≥ 9223372036854775808 then x % 18446744073709551616 - 18446744073709551616 else x % 18446744073709551616 := by
    simp [IntKind.wrap, IntKind.signed, IntKind.bits]
  rw [e]
  have h1 := Int.emod_nonneg x (b := 18446744073709551616) (by decide)
  have h2 := Int.emod_lt_of_pos x (b := 18446744073709551616) (by decide)
  split <;> omega
theorem half_wrap (x : Int) : IntKind.i64.wrap ((IntKind.i64.wrap x).tdiv 2) = (IntKind.i64.wrap x).tdiv 2 := by
  have h := wrap_bd x
  generalize IntKind.i64.wrap x = y at *
  have h1 := Int.tmod_add_mul_tdiv y 2
  have h2 : -2 < y.tmod 2 ∧ y.tmod 2 < 2 := ⟨by have := Int.tmod_lt_of_pos (-y) (b := 2) (by decide); rw [Int.neg_tmod] at this; omega, Int.tmod_lt_of_pos y (by decide)⟩
  exact IntWalk.i64_in _ (by omega)
/-- A list of numbers in a block of its own. -/
def ListV (l : List Int) (n : Nat) (v : Value) (W : World) : Prop := ∃ b, v = .slice (some ⟨b, 0, none⟩) n n ∧ b < W.heap.size ∧ ∀ i (h : i < l.length), W.cell? ⟨b, i, none⟩ = some (.int .i64 l[i])
/-- A function value that checks. -/
def LookV (K : FuncId) (q : Int × Int) (v : Value) (W : World) : Prop := ∃ caps, v = .func (.func K) #[] caps ∧ Chk W.heap.size W K caps q
/-- Function values that check, in a block of their own. -/
def LooksV (l : List (Int × Int)) (n : Nat) (v : Value) (W : World) : Prop := ∃ (b : Nat) (Ks : Nat → FuncId) (caps : Nat → Array Value), v = .slice (some ⟨b, 0, none⟩) n n ∧ b < W.heap.size ∧ ∀ i (h : i < l.length), W.cell? ⟨b, i, none⟩ = some (.func (.func (Ks i)) #[] (caps i)) ∧ Chk W.heap.size W (Ks i) (caps i) l[i]
theorem ListV.later {l : List Int} {n : Nat} {v : Value} {W W' : World} (h : ListV l n v W) (hb : Below W.heap.size W W') : ListV l n v W' := by
  obtain ⟨b, h1, h2, h3⟩ := h
  exact ⟨b, h1, Nat.lt_of_lt_of_le h2 hb.size, fun i hi => (hb.cell (p := ⟨b, i, none⟩) h2).trans (h3 i hi)⟩
theorem LookV.later {K : FuncId} {q : Int × Int} {v : Value} {W W' : World} (h : LookV K q v W) (hb : Below W.heap.size W W') : LookV K q v W' := by
  obtain ⟨caps, h1, h2⟩ := h
  exact ⟨caps, h1, h2.at hb⟩
theorem LooksV.later {l : List (Int × Int)} {n : Nat} {v : Value} {W W' : World} (h : LooksV l n v W) (hb : Below W.heap.size W W') : LooksV l n v W' := by
  obtain ⟨b, Ks, caps, h1, h2, h3⟩ := h
  exact ⟨b, Ks, caps, h1, Nat.lt_of_lt_of_le h2 hb.size, fun i hi => ⟨(hb.cell (p := ⟨b, i, none⟩) h2).trans (h3 i hi).1, (h3 i hi).2.at hb⟩⟩
def numLooks (g : Gt) : List (Int × Int) := [(mustP (inB g.open_ (-20000) 20000 && inB g.shut (-20000) 20000) 0 7), (mustP (inB g.height 1 30000) 0 7), (eachP (witE 0 10000 [g.float, g.slide]) 0 2), (eachP (witE (-10000) 10000 [g.push]) 0 1), (eachP (witE 0 200000 [g.sealN, g.drive, g.brake]) 0 3), (eachP (witE 1 100 [g.speed, g.gravity]) 0 2), (eachP (witE 0 100000 [g.use, g.pump, g.cap]) 0 3), (eachP (witE 0 ((IntKind.i64.wrap (g.travel - 1)).tdiv 2) [g.slack]) 0 1)]
/-- What the operations leave. -/
def numV (g : Gt) : Nat → Value → World → Prop
  | 4 => fun v _ => v = .bool (inB g.open_ (-20000) 20000 && inB g.shut (-20000) 20000)
  | 5 => LookV 72 (mustP (inB g.open_ (-20000) 20000 && inB g.shut (-20000) 20000) 0 7)
  | 8 => fun v _ => v = .bool (inB g.height 1 30000)
  | 9 => LookV 72 (mustP (inB g.height 1 30000) 0 7)
  | 14 => ListV [g.float, g.slide] 2
  | 15 => LookV 74 (eachP (witE 0 10000 [g.float, g.slide]) 0 2)
  | 18 => ListV [g.push] 1
  | 19 => LookV 74 (eachP (witE (-10000) 10000 [g.push]) 0 1)
  | 26 => ListV [g.sealN, g.drive, g.brake] 3
  | 27 => LookV 74 (eachP (witE 0 200000 [g.sealN, g.drive, g.brake]) 0 3)
  | 32 => ListV [g.speed, g.gravity] 2
  | 33 => LookV 74 (eachP (witE 1 100 [g.speed, g.gravity]) 0 2)
  | 40 => ListV [g.use, g.pump, g.cap] 3
  | 41 => LookV 74 (eachP (witE 0 100000 [g.use, g.pump, g.cap]) 0 3)
  | 48 => ListV [g.slack] 1
  | 49 => LookV 74 (eachP (witE 0 ((IntKind.i64.wrap (g.travel - 1)).tdiv 2) [g.slack]) 0 1)
  | 50 => LooksV (numLooks g) 8
  | 51 => fun v _ => v = .tuple #[.int .i64 (firstAt 0 (numLooks g)).1, .int .i64 (firstAt 0 (numLooks g)).2.1, .int .i64 (firstAt 0 (numLooks g)).2.2]
  | 52 => fun v _ => v = .tuple #[.int .i64 (firstAt 0 (numLooks g)).1, .int .i64 (firstAt 0 (numLooks g)).2.1, .int .i64 (firstAt 0 (numLooks g)).2.2]
  | 53 => fun v _ => v = .int .i64 (firstAt 0 (numLooks g)).1
  | 54 => fun v _ => v = .int .i64 (firstAt 0 (numLooks g)).2.1
  | 55 => fun v _ => v = .int .i64 (firstAt 0 (numLooks g)).2.2
  | 56 => fun v _ => v = .int .i64 (firstAt 0 (numLooks g)).1
  | 57 => fun v _ => v = .int .i64 (firstAt 0 (numLooks g)).2.1
  | 58 => fun v _ => v = .int .i64 (firstAt 0 (numLooks g)).2.2
  | _ => fun _ _ => True
theorem numV_stable (g : Gt) : ∀ i v w w', numV g i v w → Below w.heap.size w w' → numV g i v w' := by
  intro i v w w' h hb
  unfold numV at *
  split at h
  all_goals first | exact ListV.later h hb | exact LookV.later h hb | exact LooksV.later h hb | exact h
theorem numKeep {g : Gt} {w W1 x y : World} (hB : w.heap.size + 1 ≤ W1.heap.size) (hb : Below x.heap.size x y) (h : Below (w.heap.size + 1) W1 x ∧ x.cell? ⟨w.heap.size, 2, none⟩ = some (.int .i64 g.travel) ∧ x.cell? ⟨w.heap.size, 4, none⟩ = some (.int .i64 g.open_) ∧ x.cell? ⟨w.heap.size, 5, none⟩ = some (.int .i64 g.shut) ∧ x.cell? ⟨w.heap.size, 6, none⟩ = some (.int .i64 g.height) ∧ x.cell? ⟨w.heap.size, 7, none⟩ = some (.int .i64 g.float) ∧ x.cell? ⟨w.heap.size, 8, none⟩ = some (.int .i64 g.push) ∧ x.cell? ⟨w.heap.size, 9, none⟩ = some (.int .i64 g.slide) ∧ x.cell? ⟨w.heap.size, 10, none⟩ = some (.int .i64 g.sealN) ∧ x.cell? ⟨w.heap.size, 11, none⟩ = some (.int .i64 g.drive) ∧ x.cell? ⟨w.heap.size, 12, none⟩ = some (.int .i64 g.brake) ∧ x.cell? ⟨w.heap.size, 13, none⟩ = some (.int .i64 g.speed) ∧ x.cell? ⟨w.heap.size, 14, none⟩ = some (.int .i64 g.gravity) ∧ x.cell? ⟨w.heap.size, 15, none⟩ = some (.int .i64 g.use) ∧ x.cell? ⟨w.heap.size, 16, none⟩ = some (.int .i64 g.pump) ∧ x.cell? ⟨w.heap.size, 17, none⟩ = some (.int .i64 g.cap) ∧ x.cell? ⟨w.heap.size, 18, none⟩ = some (.int .i64 g.slack)) : Below (w.heap.size + 1) W1 y ∧ y.cell? ⟨w.heap.size, 2, none⟩ = some (.int .i64 g.travel) ∧ y.cell? ⟨w.heap.size, 4, none⟩ = some (.int .i64 g.open_) ∧ y.cell? ⟨w.heap.size, 5, none⟩ = some (.int .i64 g.shut) ∧ y.cell? ⟨w.heap.size, 6, none⟩ = some (.int .i64 g.height) ∧ y.cell? ⟨w.heap.size, 7, none⟩ = some (.int .i64 g.float) ∧ y.cell? ⟨w.heap.size, 8, none⟩ = some (.int .i64 g.push) ∧ y.cell? ⟨w.heap.size, 9, none⟩ = some (.int .i64 g.slide) ∧ y.cell? ⟨w.heap.size, 10, none⟩ = some (.int .i64 g.sealN) ∧ y.cell? ⟨w.heap.size, 11, none⟩ = some (.int .i64 g.drive) ∧ y.cell? ⟨w.heap.size, 12, none⟩ = some (.int .i64 g.brake) ∧ y.cell? ⟨w.heap.size, 13, none⟩ = some (.int .i64 g.speed) ∧ y.cell? ⟨w.heap.size, 14, none⟩ = some (.int .i64 g.gravity) ∧ y.cell? ⟨w.heap.size, 15, none⟩ = some (.int .i64 g.use) ∧ y.cell? ⟨w.heap.size, 16, none⟩ = some (.int .i64 g.pump) ∧ y.cell? ⟨w.heap.size, 17, none⟩ = some (.int .i64 g.cap) ∧ y.cell? ⟨w.heap.size, 18, none⟩ = some (.int .i64 g.slack) := by
  have hs := h.1.size
  have c : ∀ j, y.cell? ⟨w.heap.size, j, none⟩ = x.cell? ⟨w.heap.size, j, none⟩ := fun j => hb.cell (p := ⟨w.heap.size, j, none⟩) (by show w.heap.size < _; omega)
  obtain ⟨h0, h2, h4, h5, h6, h7, h8, h9, h10, h11, h12, h13, h14, h15, h16, h17, h18⟩ := h
  exact ⟨h0.trans (hb.mono (by omega)), (c _).trans h2, (c _).trans h4, (c _).trans h5, (c _).trans h6, (c _).trans h7, (c _).trans h8, (c _).trans h9, (c _).trans h10, (c _).trans h11, (c _).trans h12, (c _).trans h13, (c _).trans h14, (c _).trans h15, (c _).trans h16, (c _).trans h17, (c _).trans h18⟩
set_option maxRecDepth 100000 in
set_option maxHeartbeats 8000000 in
theorem numbersError_any (g : Gt) (p : GtP) (w : World) :
    Calls Tryz.prog 96 #[.agg (gtL g p).toArray] w fun e w' => e = .returned (.int .i64 (firstAt 0 (numLooks g)).2.2) ∧ Below w.heap.size w w' := by
  have k2 : (gtL g p)[2]? = some (.int .i64 g.travel) := rfl
  have k4 : (gtL g p)[4]? = some (.int .i64 g.open_) := rfl
  have k5 : (gtL g p)[5]? = some (.int .i64 g.shut) := rfl
  have k6 : (gtL g p)[6]? = some (.int .i64 g.height) := rfl
  have k7 : (gtL g p)[7]? = some (.int .i64 g.float) := rfl
  have k8 : (gtL g p)[8]? = some (.int .i64 g.push) := rfl
  have k9 : (gtL g p)[9]? = some (.int .i64 g.slide) := rfl
  have k10 : (gtL g p)[10]? = some (.int .i64 g.sealN) := rfl
  have k11 : (gtL g p)[11]? = some (.int .i64 g.drive) := rfl
  have k12 : (gtL g p)[12]? = some (.int .i64 g.brake) := rfl
  have k13 : (gtL g p)[13]? = some (.int .i64 g.speed) := rfl
  have k14 : (gtL g p)[14]? = some (.int .i64 g.gravity) := rfl
  have k15 : (gtL g p)[15]? = some (.int .i64 g.use) := rfl
  have k16 : (gtL g p)[16]? = some (.int .i64 g.pump) := rfl
  have k17 : (gtL g p)[17]? = some (.int .i64 g.cap) := rfl
  have k18 : (gtL g p)[18]? = some (.int .i64 g.slack) := rfl
  go_enter Tryz.func96, Tryz.ntmps96
  go_wp2_with fail
  have R := range_alloc w (gtL g p) 25
  generalize hW1 : World.alloc w _ = W1
  have B1 : Below w.heap.size w W1 := by rw [← hW1]; exact (Below.refl _ _).alloc (Nat.le_refl _) _
  have hB1 : w.heap.size + 1 ≤ W1.heap.size := by rw [← hW1]; simp
  rw [hW1] at R
  have c2 := range_cell R k2
  have c4 := range_cell R k4
  have c5 := range_cell R k5
  have c6 := range_cell R k6
  have c7 := range_cell R k7
  have c8 := range_cell R k8
  have c9 := range_cell R k9
  have c10 := range_cell R k10
  have c11 := range_cell R k11
  have c12 := range_cell R k12
  have c13 := range_cell R k13
  have c14 := range_cell R k14
  have c15 := range_cell R k15
  have c16 := range_cell R k16
  have c17 := range_cell R k17
  have c18 := range_cell R k18
  clear hW1 R k2 k4 k5 k6 k7 k8 k9 k10 k11 k12 k13 k14 k15 k16 k17 k18
  refine wp_region_noPanic ?_
  refine wp_region_held_drew (S := (fun w' => Below (w.heap.size + 1) W1 w' ∧ w'.cell? ⟨w.heap.size, 2, none⟩ = some (.int .i64 g.travel) ∧ w'.cell? ⟨w.heap.size, 4, none⟩ = some (.int .i64 g.open_) ∧ w'.cell? ⟨w.heap.size, 5, none⟩ = some (.int .i64 g.shut) ∧ w'.cell? ⟨w.heap.size, 6, none⟩ = some (.int .i64 g.height) ∧ w'.cell? ⟨w.heap.size, 7, none⟩ = some (.int .i64 g.float) ∧ w'.cell? ⟨w.heap.size, 8, none⟩ = some (.int .i64 g.push) ∧ w'.cell? ⟨w.heap.size, 9, none⟩ = some (.int .i64 g.slide) ∧ w'.cell? ⟨w.heap.size, 10, none⟩ = some (.int .i64 g.sealN) ∧ w'.cell? ⟨w.heap.size, 11, none⟩ = some (.int .i64 g.drive) ∧ w'.cell? ⟨w.heap.size, 12, none⟩ = some (.int .i64 g.brake) ∧ w'.cell? ⟨w.heap.size, 13, none⟩ = some (.int .i64 g.speed) ∧ w'.cell? ⟨w.heap.size, 14, none⟩ = some (.int .i64 g.gravity) ∧ w'.cell? ⟨w.heap.size, 15, none⟩ = some (.int .i64 g.use) ∧ w'.cell? ⟨w.heap.size, 16, none⟩ = some (.int .i64 g.pump) ∧ w'.cell? ⟨w.heap.size, 17, none⟩ = some (.int .i64 g.cap) ∧ w'.cell? ⟨w.heap.size, 18, none⟩ = some (.int .i64 g.slack))) (by kernel_rfl) ?_ (fun hHeld => ?_)
  · exact ⟨(Below.refl _ _).drew, by simpa using c2, by simpa using c4, by simpa using c5, by simpa using c6, by simpa using c7, by simpa using c8, by simpa using c9, by simpa using c10, by simpa using c11, by simpa using c12, by simpa using c13, by simpa using c14, by simpa using c15, by simpa using c16, by simpa using c17, by simpa using c18⟩
  refine wpAnyH_take (i := 0) (oi := { dst := _, op := _, type := _, pos := _, after := _, guard := _ }) (v := ?_) rfl (by kernel_rfl) (by kernel_rfl) (by kernel_rfl) (fun _ _ _ h => h) (Or.inl ⟨by rfl, ?_⟩) (by assumption) ?_
  rotate_left
  · intro wS hSw; (try dsimp only at hSw); go_simp; try (with_reducible rfl)
  try simp only [Act.put, List.setIfInBounds_toArray, List.set_cons_zero, List.set_cons_succ]
  refine wpAnyH_take (i := 2) (oi := { dst := _, op := _, type := _, pos := _, after := _, guard := _ }) (v := ?_) rfl (by kernel_rfl) (by kernel_rfl) (by kernel_rfl) (fun _ _ _ h => h) (Or.inl ⟨by rfl, ?_⟩) (by assumption) ?_
  rotate_left
  · intro wS hSw; (try dsimp only at hSw); go_simp; try (with_reducible rfl)
  try simp only [Act.put, List.setIfInBounds_toArray, List.set_cons_zero, List.set_cons_succ]
  refine wpAnyH_take (i := 6) (oi := { dst := _, op := _, type := _, pos := _, after := _, guard := _ }) (v := ?_) rfl (by kernel_rfl) (by kernel_rfl) (by kernel_rfl) (fun _ _ _ h => h) (Or.inl ⟨by rfl, ?_⟩) (by assumption) ?_
  rotate_left
  · intro wS hSw; (try dsimp only at hSw); go_simp; try (with_reducible rfl)
  try simp only [Act.put, List.setIfInBounds_toArray, List.set_cons_zero, List.set_cons_succ]
  refine wpAnyH_take (i := 10) (oi := { dst := _, op := _, type := _, pos := _, after := _, guard := _ }) (v := ?_) rfl (by kernel_rfl) (by kernel_rfl) (by kernel_rfl) (fun _ _ _ h => h) (Or.inl ⟨by rfl, ?_⟩) (by assumption) ?_
  rotate_left
  · intro wS hSw; (try dsimp only at hSw); go_simp; try (with_reducible rfl)
  try simp only [Act.put, List.setIfInBounds_toArray, List.set_cons_zero, List.set_cons_succ]
  refine wpAnyH_take (i := 12) (oi := { dst := _, op := _, type := _, pos := _, after := _, guard := _ }) (v := ?_) rfl (by kernel_rfl) (by kernel_rfl) (by kernel_rfl) (fun _ _ _ h => h) (Or.inl ⟨by rfl, ?_⟩) (by assumption) ?_
  rotate_left
  · intro wS hSw; (try dsimp only at hSw); go_simp; try (with_reducible rfl)
  try simp only [Act.put, List.setIfInBounds_toArray, List.set_cons_zero, List.set_cons_succ]
  refine wpAnyH_take (i := 16) (oi := { dst := _, op := _, type := _, pos := _, after := _, guard := _ }) (v := ?_) rfl (by kernel_rfl) (by kernel_rfl) (by kernel_rfl) (fun _ _ _ h => h) (Or.inl ⟨by rfl, ?_⟩) (by assumption) ?_
  rotate_left
  · intro wS hSw; (try dsimp only at hSw); go_simp; try (with_reducible rfl)
  try simp only [Act.put, List.setIfInBounds_toArray, List.set_cons_zero, List.set_cons_succ]
  refine wpAnyH_take (i := 20) (oi := { dst := _, op := _, type := _, pos := _, after := _, guard := _ }) (v := ?_) rfl (by kernel_rfl) (by kernel_rfl) (by kernel_rfl) (fun _ _ _ h => h) (Or.inl ⟨by rfl, ?_⟩) (by assumption) ?_
  rotate_left
  · intro wS hSw; (try dsimp only at hSw); go_simp; try (with_reducible rfl)
  try simp only [Act.put, List.setIfInBounds_toArray, List.set_cons_zero, List.set_cons_succ]
  refine wpAnyH_take (i := 22) (oi := { dst := _, op := _, type := _, pos := _, after := _, guard := _ }) (v := ?_) rfl (by kernel_rfl) (by kernel_rfl) (by kernel_rfl) (fun _ _ _ h => h) (Or.inl ⟨by rfl, ?_⟩) (by assumption) ?_
  rotate_left
  · intro wS hSw; (try dsimp only at hSw); go_simp; try (with_reducible rfl)
  try simp only [Act.put, List.setIfInBounds_toArray, List.set_cons_zero, List.set_cons_succ]
  refine wpAnyH_take (i := 24) (oi := { dst := _, op := _, type := _, pos := _, after := _, guard := _ }) (v := ?_) rfl (by kernel_rfl) (by kernel_rfl) (by kernel_rfl) (fun _ _ _ h => h) (Or.inl ⟨by rfl, ?_⟩) (by assumption) ?_
  rotate_left
  · intro wS hSw; (try dsimp only at hSw); go_simp; try (with_reducible rfl)
  try simp only [Act.put, List.setIfInBounds_toArray, List.set_cons_zero, List.set_cons_succ]
  refine wpAnyH_take (i := 28) (oi := { dst := _, op := _, type := _, pos := _, after := _, guard := _ }) (v := ?_) rfl (by kernel_rfl) (by kernel_rfl) (by kernel_rfl) (fun _ _ _ h => h) (Or.inl ⟨by rfl, ?_⟩) (by assumption) ?_
  rotate_left
  · intro wS hSw; (try dsimp only at hSw); go_simp; try (with_reducible rfl)
  try simp only [Act.put, List.setIfInBounds_toArray, List.set_cons_zero, List.set_cons_succ]
  refine wpAnyH_take (i := 30) (oi := { dst := _, op := _, type := _, pos := _, after := _, guard := _ }) (v := ?_) rfl (by kernel_rfl) (by kernel_rfl) (by kernel_rfl) (fun _ _ _ h => h) (Or.inl ⟨by rfl, ?_⟩) (by assumption) ?_
  rotate_left
  · intro wS hSw; (try dsimp only at hSw); go_simp; try (with_reducible rfl)
  try simp only [Act.put, List.setIfInBounds_toArray, List.set_cons_zero, List.set_cons_succ]
  refine wpAnyH_take (i := 34) (oi := { dst := _, op := _, type := _, pos := _, after := _, guard := _ }) (v := ?_) rfl (by kernel_rfl) (by kernel_rfl) (by kernel_rfl) (fun _ _ _ h => h) (Or.inl ⟨by rfl, ?_⟩) (by assumption) ?_
  rotate_left
  · intro wS hSw; (try dsimp only at hSw); go_simp; try (with_reducible rfl)
  try simp only [Act.put, List.setIfInBounds_toArray, List.set_cons_zero, List.set_cons_succ]
  refine wpAnyH_take (i := 36) (oi := { dst := _, op := _, type := _, pos := _, after := _, guard := _ }) (v := ?_) rfl (by kernel_rfl) (by kernel_rfl) (by kernel_rfl) (fun _ _ _ h => h) (Or.inl ⟨by rfl, ?_⟩) (by assumption) ?_
  rotate_left
  · intro wS hSw; (try dsimp only at hSw); go_simp; try (with_reducible rfl)
  try simp only [Act.put, List.setIfInBounds_toArray, List.set_cons_zero, List.set_cons_succ]
  refine wpAnyH_take (i := 38) (oi := { dst := _, op := _, type := _, pos := _, after := _, guard := _ }) (v := ?_) rfl (by kernel_rfl) (by kernel_rfl) (by kernel_rfl) (fun _ _ _ h => h) (Or.inl ⟨by rfl, ?_⟩) (by assumption) ?_
  rotate_left
  · intro wS hSw; (try dsimp only at hSw); go_simp; try (with_reducible rfl)
  try simp only [Act.put, List.setIfInBounds_toArray, List.set_cons_zero, List.set_cons_succ]
  refine wpAnyH_take (i := 42) (oi := { dst := _, op := _, type := _, pos := _, after := _, guard := _ }) (v := ?_) rfl (by kernel_rfl) (by kernel_rfl) (by kernel_rfl) (fun _ _ _ h => h) (Or.inl ⟨by rfl, ?_⟩) (by assumption) ?_
  rotate_left
  · intro wS hSw; (try dsimp only at hSw); go_simp; try (with_reducible rfl)
  try simp only [Act.put, List.setIfInBounds_toArray, List.set_cons_zero, List.set_cons_succ]
  refine wpAnyH_take (i := 46) (oi := { dst := _, op := _, type := _, pos := _, after := _, guard := _ }) (v := ?_) rfl (by kernel_rfl) (by kernel_rfl) (by kernel_rfl) (fun _ _ _ h => h) (Or.inl ⟨by rfl, ?_⟩) (by assumption) ?_
  rotate_left
  · intro wS hSw; (try dsimp only at hSw); go_simp; try (with_reducible rfl)
  try simp only [Act.put, List.setIfInBounds_toArray, List.set_cons_zero, List.set_cons_succ]
  refine wpAnyH_take (i := 1) (oi := { dst := _, op := _, type := _, pos := _, after := _, guard := _ }) (v := ?_) rfl (by kernel_rfl) (by kernel_rfl) (by kernel_rfl) (fun _ _ _ h => h) (Or.inl ⟨by rfl, ?_⟩) (by assumption) ?_
  rotate_left
  · intro wS hSw; (try dsimp only at hSw); go_simp; try (with_reducible rfl)
  try simp only [Act.put, List.setIfInBounds_toArray, List.set_cons_zero, List.set_cons_succ]
  refine wpAnyH_take (i := 3) (oi := { dst := _, op := _, type := _, pos := _, after := _, guard := _ }) (v := ?_) rfl (by kernel_rfl) (by kernel_rfl) (by kernel_rfl) (fun _ _ _ h => h) (Or.inl ⟨by rfl, ?_⟩) (by assumption) ?_
  rotate_left
  · intro wS hSw; (try dsimp only at hSw); go_simp; try (with_reducible rfl)
  try simp only [Act.put, List.setIfInBounds_toArray, List.set_cons_zero, List.set_cons_succ]
  refine wpAnyH_take (i := 7) (oi := { dst := _, op := _, type := _, pos := _, after := _, guard := _ }) (v := ?_) rfl (by kernel_rfl) (by kernel_rfl) (by kernel_rfl) (fun _ _ _ h => h) (Or.inl ⟨by rfl, ?_⟩) (by assumption) ?_
  rotate_left
  · intro wS hSw; (try dsimp only at hSw); go_simp; try (with_reducible rfl)
  try simp only [Act.put, List.setIfInBounds_toArray, List.set_cons_zero, List.set_cons_succ]
  refine wpAnyH_take (i := 11) (oi := { dst := _, op := _, type := _, pos := _, after := _, guard := _ }) (v := ?_) rfl (by kernel_rfl) (by kernel_rfl) (by kernel_rfl) (fun _ _ _ h => h) (Or.inl ⟨by rfl, ?_⟩) (by assumption) ?_
  rotate_left
  · intro wS hSw; (try dsimp only at hSw); go_simp; try (with_reducible rfl)
  try simp only [Act.put, List.setIfInBounds_toArray, List.set_cons_zero, List.set_cons_succ]
  refine wpAnyH_take (i := 13) (oi := { dst := _, op := _, type := _, pos := _, after := _, guard := _ }) (v := ?_) rfl (by kernel_rfl) (by kernel_rfl) (by kernel_rfl) (fun _ _ _ h => h) (Or.inl ⟨by rfl, ?_⟩) (by assumption) ?_
  rotate_left
  · intro wS hSw; (try dsimp only at hSw); go_simp; try (with_reducible rfl)
  try simp only [Act.put, List.setIfInBounds_toArray, List.set_cons_zero, List.set_cons_succ]
  refine wpAnyH_take (i := 17) (oi := { dst := _, op := _, type := _, pos := _, after := _, guard := _ }) (v := ?_) rfl (by kernel_rfl) (by kernel_rfl) (by kernel_rfl) (fun _ _ _ h => h) (Or.inl ⟨by rfl, ?_⟩) (by assumption) ?_
  rotate_left
  · intro wS hSw; (try dsimp only at hSw); go_simp; try (with_reducible rfl)
  try simp only [Act.put, List.setIfInBounds_toArray, List.set_cons_zero, List.set_cons_succ]
  refine wpAnyH_take (i := 21) (oi := { dst := _, op := _, type := _, pos := _, after := _, guard := _ }) (v := ?_) rfl (by kernel_rfl) (by kernel_rfl) (by kernel_rfl) (fun _ _ _ h => h) (Or.inl ⟨by rfl, ?_⟩) (by assumption) ?_
  rotate_left
  · intro wS hSw; (try dsimp only at hSw); go_simp; try (with_reducible rfl)
  try simp only [Act.put, List.setIfInBounds_toArray, List.set_cons_zero, List.set_cons_succ]
  refine wpAnyH_take (i := 23) (oi := { dst := _, op := _, type := _, pos := _, after := _, guard := _ }) (v := ?_) rfl (by kernel_rfl) (by kernel_rfl) (by kernel_rfl) (fun _ _ _ h => h) (Or.inl ⟨by rfl, ?_⟩) (by assumption) ?_
  rotate_left
  · intro wS hSw; (try dsimp only at hSw); go_simp; try (with_reducible rfl)
  try simp only [Act.put, List.setIfInBounds_toArray, List.set_cons_zero, List.set_cons_succ]
  refine wpAnyH_take (i := 25) (oi := { dst := _, op := _, type := _, pos := _, after := _, guard := _ }) (v := ?_) rfl (by kernel_rfl) (by kernel_rfl) (by kernel_rfl) (fun _ _ _ h => h) (Or.inl ⟨by rfl, ?_⟩) (by assumption) ?_
  rotate_left
  · intro wS hSw; (try dsimp only at hSw); go_simp; try (with_reducible rfl)
  try simp only [Act.put, List.setIfInBounds_toArray, List.set_cons_zero, List.set_cons_succ]
  refine wpAnyH_take (i := 29) (oi := { dst := _, op := _, type := _, pos := _, after := _, guard := _ }) (v := ?_) rfl (by kernel_rfl) (by kernel_rfl) (by kernel_rfl) (fun _ _ _ h => h) (Or.inl ⟨by rfl, ?_⟩) (by assumption) ?_
  rotate_left
  · intro wS hSw; (try dsimp only at hSw); go_simp; try (with_reducible rfl)
  try simp only [Act.put, List.setIfInBounds_toArray, List.set_cons_zero, List.set_cons_succ]
  refine wpAnyH_take (i := 31) (oi := { dst := _, op := _, type := _, pos := _, after := _, guard := _ }) (v := ?_) rfl (by kernel_rfl) (by kernel_rfl) (by kernel_rfl) (fun _ _ _ h => h) (Or.inl ⟨by rfl, ?_⟩) (by assumption) ?_
  rotate_left
  · intro wS hSw; (try dsimp only at hSw); go_simp; try (with_reducible rfl)
  try simp only [Act.put, List.setIfInBounds_toArray, List.set_cons_zero, List.set_cons_succ]
  refine wpAnyH_take (i := 35) (oi := { dst := _, op := _, type := _, pos := _, after := _, guard := _ }) (v := ?_) rfl (by kernel_rfl) (by kernel_rfl) (by kernel_rfl) (fun _ _ _ h => h) (Or.inl ⟨by rfl, ?_⟩) (by assumption) ?_
  rotate_left
  · intro wS hSw; (try dsimp only at hSw); go_simp; try (with_reducible rfl)
  try simp only [Act.put, List.setIfInBounds_toArray, List.set_cons_zero, List.set_cons_succ]
  refine wpAnyH_take (i := 37) (oi := { dst := _, op := _, type := _, pos := _, after := _, guard := _ }) (v := ?_) rfl (by kernel_rfl) (by kernel_rfl) (by kernel_rfl) (fun _ _ _ h => h) (Or.inl ⟨by rfl, ?_⟩) (by assumption) ?_
  rotate_left
  · intro wS hSw; (try dsimp only at hSw); go_simp; try (with_reducible rfl)
  try simp only [Act.put, List.setIfInBounds_toArray, List.set_cons_zero, List.set_cons_succ]
  refine wpAnyH_take (i := 39) (oi := { dst := _, op := _, type := _, pos := _, after := _, guard := _ }) (v := ?_) rfl (by kernel_rfl) (by kernel_rfl) (by kernel_rfl) (fun _ _ _ h => h) (Or.inl ⟨by rfl, ?_⟩) (by assumption) ?_
  rotate_left
  · intro wS hSw; (try dsimp only at hSw); go_simp; try (with_reducible rfl)
  try simp only [Act.put, List.setIfInBounds_toArray, List.set_cons_zero, List.set_cons_succ]
  refine wpAnyH_take (i := 43) (oi := { dst := _, op := _, type := _, pos := _, after := _, guard := _ }) (v := ?_) rfl (by kernel_rfl) (by kernel_rfl) (by kernel_rfl) (fun _ _ _ h => h) (Or.inl ⟨by rfl, ?_⟩) (by assumption) ?_
  rotate_left
  · intro wS hSw; (try dsimp only at hSw); go_simp; try (with_reducible rfl)
  try simp only [Act.put, List.setIfInBounds_toArray, List.set_cons_zero, List.set_cons_succ]
  refine wpAnyH_take (i := 47) (oi := { dst := _, op := _, type := _, pos := _, after := _, guard := _ }) (v := ?_) rfl (by kernel_rfl) (by kernel_rfl) (by kernel_rfl) (fun _ _ _ h => h) (Or.inl ⟨by rfl, ?_⟩) (by assumption) ?_
  rotate_left
  · intro wS hSw; (try dsimp only at hSw); go_simp; try (with_reducible rfl)
  try simp only [Act.put, List.setIfInBounds_toArray, List.set_cons_zero, List.set_cons_succ]
  refine wpAnyH_take (i := 44) (oi := { dst := _, op := _, type := _, pos := _, after := _, guard := _ }) (v := ?_) rfl (by kernel_rfl) (by kernel_rfl) (by kernel_rfl) (fun _ _ _ h => h) (Or.inl ⟨by rfl, ?_⟩) (by assumption) ?_
  rotate_left
  · intro wS hSw; (try dsimp only at hSw); go_simp; try (with_reducible rfl)
  try simp only [Act.put, List.setIfInBounds_toArray, List.set_cons_zero, List.set_cons_succ]
  refine wpAnyH_take (i := 45) (oi := { dst := _, op := _, type := _, pos := _, after := _, guard := _ }) (v := ?_) rfl (by kernel_rfl) (by kernel_rfl) (by kernel_rfl) (fun _ _ _ h => h) (Or.inl ⟨by rfl, ?_⟩) (by assumption) ?_
  rotate_left
  · intro wS hSw; (try dsimp only at hSw); go_simp; try (with_reducible rfl)
  try simp only [Act.put, List.setIfInBounds_toArray, List.set_cons_zero, List.set_cons_succ]
  refine wpAnyH_from (numV g) 63 rfl (by decide +kernel) (by kernel_rfl) (numV_stable g) (by assumption) (by decide +kernel) (fun i o ho hd d a wv hS hI hall => ?_) (fun d a wv hS hI hall => ?_)
  · have hm := todo_mem (l := [4, 5, 8, 9, 14, 15, 18, 19, 26, 27, 32, 33, 40, 41, 48, 49, 50, 51, 52, 53, 54, 55, 56, 57, 58]) (by decide +kernel) ho hd
    simp only [List.mem_cons, List.not_mem_nil, or_false] at hm
    rcases hm with rfl | rfl | rfl | rfl | rfl | rfl | rfl | rfl | rfl | rfl | rfl | rfl | rfl | rfl | rfl | rfl | rfl | rfl | rfl | rfl | rfl | rfl | rfl | rfl | rfl
    · injection ho with ho
      subst ho
      have e8 := hI.old (t := 8) (by decide +kernel) rfl
      have e10 := hI.old (t := 10) (by decide +kernel) rfl
      refine wp_callF (F := 75) (args := #[.int .i64 g.open_, .int .i64 g.shut]) (by simp [execOp, go_sem, e8, e10]) ?_
      refine (areLevels_any _ _ _).mono ?_
      rintro e w' ⟨rfl, rfl⟩
      exact ⟨_, rfl, _, rfl, rfl, hS, Below.refl _ _⟩
    · injection ho with ho
      subst ho
      obtain ⟨v4, e4, V4⟩ := hI.new (i := 4) (t := 11) rfl (by decide +kernel) (hall ⟨4, .data⟩ (by simp) rfl) rfl
      obtain rfl : v4 = .bool (inB g.open_ (-20000) 20000 && inB g.shut (-20000) 20000) := V4
      refine wp_callF (F := 35) (args := #[.bool (inB g.open_ (-20000) 20000 && inB g.shut (-20000) 20000), .int .i64 0, .int .i64 7]) (by simp [execOp, go_sem, e4]) ?_
      refine (must_any _ _ _ _).mono ?_
      rintro e w' ⟨caps, rfl, hb, hchk⟩
      exact ⟨_, rfl, _, rfl, ⟨caps, rfl, hchk⟩, numKeep hB1 hb hS, hb⟩
    · injection ho with ho
      subst ho
      have e14 := hI.old (t := 14) (by decide +kernel) rfl
      refine wp_callF (F := 73) (args := #[.int .i64 g.height, .int .i64 1, .int .i64 30000]) (by simp [execOp, go_sem, e14]) ?_
      refine (in_any _ _ _ _).mono ?_
      rintro e w' ⟨rfl, rfl⟩
      exact ⟨_, rfl, _, rfl, rfl, hS, Below.refl _ _⟩
    · injection ho with ho
      subst ho
      obtain ⟨v8, e8, V8⟩ := hI.new (i := 8) (t := 15) rfl (by decide +kernel) (hall ⟨8, .data⟩ (by simp) rfl) rfl
      obtain rfl : v8 = .bool (inB g.height 1 30000) := V8
      refine wp_callF (F := 35) (args := #[.bool (inB g.height 1 30000), .int .i64 0, .int .i64 7]) (by simp [execOp, go_sem, e8]) ?_
      refine (must_any _ _ _ _).mono ?_
      rintro e w' ⟨caps, rfl, hb, hchk⟩
      exact ⟨_, rfl, _, rfl, ⟨caps, rfl, hchk⟩, numKeep hB1 hb hS, hb⟩
    · injection ho with ho
      subst ho
      have e18 := hI.old (t := 18) (by decide +kernel) rfl
      have e20 := hI.old (t := 20) (by decide +kernel) rfl
      refine wp_valF (v := .slice (some ⟨wv.heap.size, 0, none⟩) 2 2) (w' := wv.alloc (.cells #[.int .i64 g.float, .int .i64 g.slide] 3)) (by simp [execOp, go_sem, e18, e20]) ?_
      have hb : Below wv.heap.size wv (wv.alloc (.cells #[.int .i64 g.float, .int .i64 g.slide] 3)) := (Below.refl _ _).alloc (Nat.le_refl _) _
      refine ⟨_, rfl, ⟨wv.heap.size, rfl, by simp, fun i hi => ?_⟩, numKeep hB1 hb hS, hb⟩
      have hi' : i < 2 := hi
      match i, hi' with
      | 0, _ => simp [go_sem]
      | 1, _ => simp [go_sem]
    · injection ho with ho
      subst ho
      obtain ⟨v14, e14, V14⟩ := hI.new (i := 14) (t := 21) rfl (by decide +kernel) (hall ⟨14, .data⟩ (by simp) rfl) rfl
      obtain ⟨b, rfl, hb0, hc⟩ : ListV [g.float, g.slide] 2 v14 wv := V14
      refine wp_callF (F := 121) (args := #[.int .i64 0, .int .i64 10000, .slice (some ⟨b, 0, none⟩) 2 2]) (by simp [execOp, go_sem, e14]) ?_
      refine (within_any 0 10000 b [g.float, g.slide] wv (by simp) hb0 hc).mono ?_
      rintro e w' ⟨caps, rfl, hb, hchk⟩
      exact ⟨_, rfl, _, rfl, ⟨caps, rfl, hchk⟩, numKeep hB1 hb hS, hb⟩
    · injection ho with ho
      subst ho
      have e24 := hI.old (t := 24) (by decide +kernel) rfl
      refine wp_valF (v := .slice (some ⟨wv.heap.size, 0, none⟩) 1 1) (w' := wv.alloc (.cells #[.int .i64 g.push] 3)) (by simp [execOp, go_sem, e24]) ?_
      have hb : Below wv.heap.size wv (wv.alloc (.cells #[.int .i64 g.push] 3)) := (Below.refl _ _).alloc (Nat.le_refl _) _
      refine ⟨_, rfl, ⟨wv.heap.size, rfl, by simp, fun i hi => ?_⟩, numKeep hB1 hb hS, hb⟩
      have hi' : i < 1 := hi
      match i, hi' with
      | 0, _ => simp [go_sem]
    · injection ho with ho
      subst ho
      obtain ⟨v18, e18, V18⟩ := hI.new (i := 18) (t := 25) rfl (by decide +kernel) (hall ⟨18, .data⟩ (by simp) rfl) rfl
      obtain ⟨b, rfl, hb0, hc⟩ : ListV [g.push] 1 v18 wv := V18
      refine wp_callF (F := 121) (args := #[.int .i64 (-10000), .int .i64 10000, .slice (some ⟨b, 0, none⟩) 1 1]) (by simp [execOp, go_sem, e18]) ?_
      refine (within_any (-10000) 10000 b [g.push] wv (by simp) hb0 hc).mono ?_
      rintro e w' ⟨caps, rfl, hb, hchk⟩
      exact ⟨_, rfl, _, rfl, ⟨caps, rfl, hchk⟩, numKeep hB1 hb hS, hb⟩
    · injection ho with ho
      subst ho
      have e28 := hI.old (t := 28) (by decide +kernel) rfl
      have e30 := hI.old (t := 30) (by decide +kernel) rfl
      have e32 := hI.old (t := 32) (by decide +kernel) rfl
      refine wp_valF (v := .slice (some ⟨wv.heap.size, 0, none⟩) 3 3) (w' := wv.alloc (.cells #[.int .i64 g.sealN, .int .i64 g.drive, .int .i64 g.brake] 3)) (by simp [execOp, go_sem, e28, e30, e32]) ?_
      have hb : Below wv.heap.size wv (wv.alloc (.cells #[.int .i64 g.sealN, .int .i64 g.drive, .int .i64 g.brake] 3)) := (Below.refl _ _).alloc (Nat.le_refl _) _
      refine ⟨_, rfl, ⟨wv.heap.size, rfl, by simp, fun i hi => ?_⟩, numKeep hB1 hb hS, hb⟩
      have hi' : i < 3 := hi
      match i, hi' with
      | 0, _ => simp [go_sem]
      | 1, _ => simp [go_sem]
      | 2, _ => simp [go_sem]
    · injection ho with ho
      subst ho
      obtain ⟨v26, e26, V26⟩ := hI.new (i := 26) (t := 33) rfl (by decide +kernel) (hall ⟨26, .data⟩ (by simp) rfl) rfl
      obtain ⟨b, rfl, hb0, hc⟩ : ListV [g.sealN, g.drive, g.brake] 3 v26 wv := V26
      refine wp_callF (F := 121) (args := #[.int .i64 0, .int .i64 200000, .slice (some ⟨b, 0, none⟩) 3 3]) (by simp [execOp, go_sem, e26]) ?_
      refine (within_any 0 200000 b [g.sealN, g.drive, g.brake] wv (by simp) hb0 hc).mono ?_
      rintro e w' ⟨caps, rfl, hb, hchk⟩
      exact ⟨_, rfl, _, rfl, ⟨caps, rfl, hchk⟩, numKeep hB1 hb hS, hb⟩
    · injection ho with ho
      subst ho
      have e36 := hI.old (t := 36) (by decide +kernel) rfl
      have e38 := hI.old (t := 38) (by decide +kernel) rfl
      refine wp_valF (v := .slice (some ⟨wv.heap.size, 0, none⟩) 2 2) (w' := wv.alloc (.cells #[.int .i64 g.speed, .int .i64 g.gravity] 3)) (by simp [execOp, go_sem, e36, e38]) ?_
      have hb : Below wv.heap.size wv (wv.alloc (.cells #[.int .i64 g.speed, .int .i64 g.gravity] 3)) := (Below.refl _ _).alloc (Nat.le_refl _) _
      refine ⟨_, rfl, ⟨wv.heap.size, rfl, by simp, fun i hi => ?_⟩, numKeep hB1 hb hS, hb⟩
      have hi' : i < 2 := hi
      match i, hi' with
      | 0, _ => simp [go_sem]
      | 1, _ => simp [go_sem]
    · injection ho with ho
      subst ho
      obtain ⟨v32, e32, V32⟩ := hI.new (i := 32) (t := 39) rfl (by decide +kernel) (hall ⟨32, .data⟩ (by simp) rfl) rfl
      obtain ⟨b, rfl, hb0, hc⟩ : ListV [g.speed, g.gravity] 2 v32 wv := V32
      refine wp_callF (F := 121) (args := #[.int .i64 1, .int .i64 100, .slice (some ⟨b, 0, none⟩) 2 2]) (by simp [execOp, go_sem, e32]) ?_
      refine (within_any 1 100 b [g.speed, g.gravity] wv (by simp) hb0 hc).mono ?_
      rintro e w' ⟨caps, rfl, hb, hchk⟩
      exact ⟨_, rfl, _, rfl, ⟨caps, rfl, hchk⟩, numKeep hB1 hb hS, hb⟩
    · injection ho with ho
      subst ho
      have e42 := hI.old (t := 42) (by decide +kernel) rfl
      have e44 := hI.old (t := 44) (by decide +kernel) rfl
      have e46 := hI.old (t := 46) (by decide +kernel) rfl
      refine wp_valF (v := .slice (some ⟨wv.heap.size, 0, none⟩) 3 3) (w' := wv.alloc (.cells #[.int .i64 g.use, .int .i64 g.pump, .int .i64 g.cap] 3)) (by simp [execOp, go_sem, e42, e44, e46]) ?_
      have hb : Below wv.heap.size wv (wv.alloc (.cells #[.int .i64 g.use, .int .i64 g.pump, .int .i64 g.cap] 3)) := (Below.refl _ _).alloc (Nat.le_refl _) _
      refine ⟨_, rfl, ⟨wv.heap.size, rfl, by simp, fun i hi => ?_⟩, numKeep hB1 hb hS, hb⟩
      have hi' : i < 3 := hi
      match i, hi' with
      | 0, _ => simp [go_sem]
      | 1, _ => simp [go_sem]
      | 2, _ => simp [go_sem]
    · injection ho with ho
      subst ho
      obtain ⟨v40, e40, V40⟩ := hI.new (i := 40) (t := 47) rfl (by decide +kernel) (hall ⟨40, .data⟩ (by simp) rfl) rfl
      obtain ⟨b, rfl, hb0, hc⟩ : ListV [g.use, g.pump, g.cap] 3 v40 wv := V40
      refine wp_callF (F := 121) (args := #[.int .i64 0, .int .i64 100000, .slice (some ⟨b, 0, none⟩) 3 3]) (by simp [execOp, go_sem, e40]) ?_
      refine (within_any 0 100000 b [g.use, g.pump, g.cap] wv (by simp) hb0 hc).mono ?_
      rintro e w' ⟨caps, rfl, hb, hchk⟩
      exact ⟨_, rfl, _, rfl, ⟨caps, rfl, hchk⟩, numKeep hB1 hb hS, hb⟩
    · injection ho with ho
      subst ho
      have e54 := hI.old (t := 54) (by decide +kernel) rfl
      refine wp_valF (v := .slice (some ⟨wv.heap.size, 0, none⟩) 1 1) (w' := wv.alloc (.cells #[.int .i64 g.slack] 3)) (by simp [execOp, go_sem, e54]) ?_
      have hb : Below wv.heap.size wv (wv.alloc (.cells #[.int .i64 g.slack] 3)) := (Below.refl _ _).alloc (Nat.le_refl _) _
      refine ⟨_, rfl, ⟨wv.heap.size, rfl, by simp, fun i hi => ?_⟩, numKeep hB1 hb hS, hb⟩
      have hi' : i < 1 := hi
      match i, hi' with
      | 0, _ => simp [go_sem]
    · injection ho with ho
      subst ho
      have hw := half_wrap (g.travel - 1)
      have e52 := hI.old (t := 52) (by decide +kernel) rfl
      obtain ⟨v48, e48, V48⟩ := hI.new (i := 48) (t := 55) rfl (by decide +kernel) (hall ⟨48, .data⟩ (by simp) rfl) rfl
      obtain ⟨b, rfl, hb0, hc⟩ : ListV [g.slack] 1 v48 wv := V48
      refine wp_callF (F := 121) (args := #[.int .i64 0, .int .i64 ((IntKind.i64.wrap (g.travel - 1)).tdiv 2), .slice (some ⟨b, 0, none⟩) 1 1]) (by simp [execOp, go_sem, e48, hw, e52]) ?_
      refine (within_any 0 ((IntKind.i64.wrap (g.travel - 1)).tdiv 2) b [g.slack] wv (by simp) hb0 hc).mono ?_
      rintro e w' ⟨caps, rfl, hb, hchk⟩
      exact ⟨_, rfl, _, rfl, ⟨caps, rfl, hchk⟩, numKeep hB1 hb hS, hb⟩
    · injection ho with ho
      subst ho
      obtain ⟨v5, e5, V5⟩ := hI.new (i := 5) (t := 12) rfl (by decide +kernel) (hall ⟨5, .data⟩ (by simp) rfl) rfl
      obtain ⟨v9, e9, V9⟩ := hI.new (i := 9) (t := 16) rfl (by decide +kernel) (hall ⟨9, .data⟩ (by simp) rfl) rfl
      obtain ⟨v15, e15, V15⟩ := hI.new (i := 15) (t := 22) rfl (by decide +kernel) (hall ⟨15, .data⟩ (by simp) rfl) rfl
      obtain ⟨v19, e19, V19⟩ := hI.new (i := 19) (t := 26) rfl (by decide +kernel) (hall ⟨19, .data⟩ (by simp) rfl) rfl
      obtain ⟨v27, e27, V27⟩ := hI.new (i := 27) (t := 34) rfl (by decide +kernel) (hall ⟨27, .data⟩ (by simp) rfl) rfl
      obtain ⟨v33, e33, V33⟩ := hI.new (i := 33) (t := 40) rfl (by decide +kernel) (hall ⟨33, .data⟩ (by simp) rfl) rfl
      obtain ⟨v41, e41, V41⟩ := hI.new (i := 41) (t := 48) rfl (by decide +kernel) (hall ⟨41, .data⟩ (by simp) rfl) rfl
      obtain ⟨v49, e49, V49⟩ := hI.new (i := 49) (t := 56) rfl (by decide +kernel) (hall ⟨49, .data⟩ (by simp) rfl) rfl
      obtain ⟨c5, rfl, C5⟩ : LookV _ (mustP (inB g.open_ (-20000) 20000 && inB g.shut (-20000) 20000) 0 7) v5 wv := V5
      obtain ⟨c9, rfl, C9⟩ : LookV _ (mustP (inB g.height 1 30000) 0 7) v9 wv := V9
      obtain ⟨c15, rfl, C15⟩ : LookV _ (eachP (witE 0 10000 [g.float, g.slide]) 0 2) v15 wv := V15
      obtain ⟨c19, rfl, C19⟩ : LookV _ (eachP (witE (-10000) 10000 [g.push]) 0 1) v19 wv := V19
      obtain ⟨c27, rfl, C27⟩ : LookV _ (eachP (witE 0 200000 [g.sealN, g.drive, g.brake]) 0 3) v27 wv := V27
      obtain ⟨c33, rfl, C33⟩ : LookV _ (eachP (witE 1 100 [g.speed, g.gravity]) 0 2) v33 wv := V33
      obtain ⟨c41, rfl, C41⟩ : LookV _ (eachP (witE 0 100000 [g.use, g.pump, g.cap]) 0 3) v41 wv := V41
      obtain ⟨c49, rfl, C49⟩ : LookV _ (eachP (witE 0 ((IntKind.i64.wrap (g.travel - 1)).tdiv 2) [g.slack]) 0 1) v49 wv := V49
      refine wp_valF (v := .slice (some ⟨wv.heap.size, 0, none⟩) 8 8) (w' := wv.alloc (.cells #[.func (.func 72) #[] c5, .func (.func 72) #[] c9, .func (.func 74) #[] c15, .func (.func 74) #[] c19, .func (.func 74) #[] c27, .func (.func 74) #[] c33, .func (.func 74) #[] c41, .func (.func 74) #[] c49] 82)) (by simp [execOp, go_sem, e5, e9, e15, e19, e27, e33, e41, e49]) ?_
      have hb : Below wv.heap.size wv (wv.alloc (.cells #[.func (.func 72) #[] c5, .func (.func 72) #[] c9, .func (.func 74) #[] c15, .func (.func 74) #[] c19, .func (.func 74) #[] c27, .func (.func 74) #[] c33, .func (.func 74) #[] c41, .func (.func 74) #[] c49] 82)) := (Below.refl _ _).alloc (Nat.le_refl _) _
      refine ⟨_, rfl, ⟨wv.heap.size, fun i => match i with | 0 => 72 | 1 => 72 | 2 => 74 | 3 => 74 | 4 => 74 | 5 => 74 | 6 => 74 | _ => 74, fun i => match i with | 0 => c5 | 1 => c9 | 2 => c15 | 3 => c19 | 4 => c27 | 5 => c33 | 6 => c41 | _ => c49, rfl, by simp, fun i hi => ?_⟩, numKeep hB1 hb hS, hb⟩
      have hi' : i < 8 := hi
      match i, hi' with
      | 0, _ => exact ⟨by simp [go_sem], C5.at hb⟩
      | 1, _ => exact ⟨by simp [go_sem], C9.at hb⟩
      | 2, _ => exact ⟨by simp [go_sem], C15.at hb⟩
      | 3, _ => exact ⟨by simp [go_sem], C19.at hb⟩
      | 4, _ => exact ⟨by simp [go_sem], C27.at hb⟩
      | 5, _ => exact ⟨by simp [go_sem], C33.at hb⟩
      | 6, _ => exact ⟨by simp [go_sem], C41.at hb⟩
      | 7, _ => exact ⟨by simp [go_sem], C49.at hb⟩
    · injection ho with ho
      subst ho
      obtain ⟨v50, e50, V50⟩ := hI.new (i := 50) (t := 57) rfl (by decide +kernel) (hall ⟨50, .data⟩ (by simp) rfl) rfl
      obtain ⟨b, Ks, caps, rfl, hb0, hc⟩ : LooksV (numLooks g) 8 v50 wv := V50
      refine wp_callF (F := 33) (args := #[.slice (some ⟨b, 0, none⟩) 8 8]) (by simp [execOp, go_sem, e50]) ?_
      refine (first_any wv.heap.size wv (numLooks g) b 0 8 Ks caps wv (by simp [numLooks]) (Nat.le_refl _) (Below.refl _ _) hb0 (fun i hi => by rw [Nat.zero_add]; exact (hc i hi).1) (fun i hi => (hc i hi).2)).mono ?_
      rintro e w' ⟨rfl, hb⟩
      exact ⟨_, rfl, _, rfl, rfl, numKeep hB1 hb hS, hb⟩
    · injection ho with ho
      subst ho
      obtain ⟨v51, e51, V51⟩ := hI.new (i := 51) (t := 58) rfl (by decide +kernel) (hall ⟨51, .data⟩ (by simp) rfl) rfl
      obtain rfl : v51 = .tuple #[.int .i64 (firstAt 0 (numLooks g)).1, .int .i64 (firstAt 0 (numLooks g)).2.1, .int .i64 (firstAt 0 (numLooks g)).2.2] := V51
      exact wp_valF (v := .tuple #[.int .i64 (firstAt 0 (numLooks g)).1, .int .i64 (firstAt 0 (numLooks g)).2.1, .int .i64 (firstAt 0 (numLooks g)).2.2]) (w' := wv) (by simp [execOp, go_sem, e51]) ⟨_, rfl, rfl, hS, Below.refl _ _⟩
    · injection ho with ho
      subst ho
      obtain ⟨v52, e52, V52⟩ := hI.new (i := 52) (t := 6) rfl (by decide +kernel) (hall ⟨52, .data⟩ (by simp) rfl) rfl
      obtain rfl : v52 = .tuple #[.int .i64 (firstAt 0 (numLooks g)).1, .int .i64 (firstAt 0 (numLooks g)).2.1, .int .i64 (firstAt 0 (numLooks g)).2.2] := V52
      exact wp_valF (v := .int .i64 (firstAt 0 (numLooks g)).1) (w' := wv) (by simp [execOp, go_sem, e52]) ⟨_, rfl, rfl, hS, Below.refl _ _⟩
    · injection ho with ho
      subst ho
      obtain ⟨v52, e52, V52⟩ := hI.new (i := 52) (t := 6) rfl (by decide +kernel) (hall ⟨52, .data⟩ (by simp) rfl) rfl
      obtain rfl : v52 = .tuple #[.int .i64 (firstAt 0 (numLooks g)).1, .int .i64 (firstAt 0 (numLooks g)).2.1, .int .i64 (firstAt 0 (numLooks g)).2.2] := V52
      exact wp_valF (v := .int .i64 (firstAt 0 (numLooks g)).2.1) (w' := wv) (by simp [execOp, go_sem, e52]) ⟨_, rfl, rfl, hS, Below.refl _ _⟩
    · injection ho with ho
      subst ho
      obtain ⟨v52, e52, V52⟩ := hI.new (i := 52) (t := 6) rfl (by decide +kernel) (hall ⟨52, .data⟩ (by simp) rfl) rfl
      obtain rfl : v52 = .tuple #[.int .i64 (firstAt 0 (numLooks g)).1, .int .i64 (firstAt 0 (numLooks g)).2.1, .int .i64 (firstAt 0 (numLooks g)).2.2] := V52
      exact wp_valF (v := .int .i64 (firstAt 0 (numLooks g)).2.2) (w' := wv) (by simp [execOp, go_sem, e52]) ⟨_, rfl, rfl, hS, Below.refl _ _⟩
    · injection ho with ho
      subst ho
      obtain ⟨v53, e53, V53⟩ := hI.new (i := 53) (t := 59) rfl (by decide +kernel) (hall ⟨53, .data⟩ (by simp) rfl) rfl
      obtain rfl : v53 = .int .i64 (firstAt 0 (numLooks g)).1 := V53
      exact wp_valF (v := .int .i64 (firstAt 0 (numLooks g)).1) (w' := wv) (by simp [execOp, go_sem, e53]) ⟨_, rfl, rfl, hS, Below.refl _ _⟩
    · injection ho with ho
      subst ho
      obtain ⟨v54, e54, V54⟩ := hI.new (i := 54) (t := 60) rfl (by decide +kernel) (hall ⟨54, .data⟩ (by simp) rfl) rfl
      obtain rfl : v54 = .int .i64 (firstAt 0 (numLooks g)).2.1 := V54
      exact wp_valF (v := .int .i64 (firstAt 0 (numLooks g)).2.1) (w' := wv) (by simp [execOp, go_sem, e54]) ⟨_, rfl, rfl, hS, Below.refl _ _⟩
    · injection ho with ho
      subst ho
      obtain ⟨v55, e55, V55⟩ := hI.new (i := 55) (t := 61) rfl (by decide +kernel) (hall ⟨55, .data⟩ (by simp) rfl) rfl
      obtain rfl : v55 = .int .i64 (firstAt 0 (numLooks g)).2.2 := V55
      exact wp_valF (v := .int .i64 (firstAt 0 (numLooks g)).2.2) (w' := wv) (by simp [execOp, go_sem, e55]) ⟨_, rfl, rfl, hS, Below.refl _ _⟩
  · refine NoPanic.normal ?_
    obtain ⟨v, h5, hV⟩ := hI.vals 58 _ 5 rfl (by decide +kernel) (hall 58 (by decide)) rfl
    obtain rfl : v = .int .i64 (firstAt 0 (numLooks g)).2.2 := hV
    have hdf := hI.defers
    have hsz := hI.size
    have hfin := B1.trans (hS.1.mono (by omega))
    clear hI hall hS
    obtain ⟨⟨l0⟩, df⟩ := a
    simp only at hdf h5 hsz
    subst hdf
    have hl0 : l0.length = 63 := hsz
    clear hsz
    obtain ⟨u0, l1, rfl, hl1⟩ := cons_of_len hl0
    obtain ⟨u1, l2, rfl, hl2⟩ := cons_of_len hl1
    obtain ⟨u2, l3, rfl, hl3⟩ := cons_of_len hl2
    obtain ⟨u3, l4, rfl, hl4⟩ := cons_of_len hl3
    obtain ⟨u4, l5, rfl, hl5⟩ := cons_of_len hl4
    obtain ⟨u5, l6, rfl, hl6⟩ := cons_of_len hl5
    obtain ⟨u6, l7, rfl, hl7⟩ := cons_of_len hl6
    obtain ⟨u7, l8, rfl, hl8⟩ := cons_of_len hl7
    obtain ⟨u8, l9, rfl, hl9⟩ := cons_of_len hl8
    obtain ⟨u9, l10, rfl, hl10⟩ := cons_of_len hl9
    obtain ⟨u10, l11, rfl, hl11⟩ := cons_of_len hl10
    obtain ⟨u11, l12, rfl, hl12⟩ := cons_of_len hl11
    obtain ⟨u12, l13, rfl, hl13⟩ := cons_of_len hl12
    obtain ⟨u13, l14, rfl, hl14⟩ := cons_of_len hl13
    obtain ⟨u14, l15, rfl, hl15⟩ := cons_of_len hl14
    obtain ⟨u15, l16, rfl, hl16⟩ := cons_of_len hl15
    obtain ⟨u16, l17, rfl, hl17⟩ := cons_of_len hl16
    obtain ⟨u17, l18, rfl, hl18⟩ := cons_of_len hl17
    obtain ⟨u18, l19, rfl, hl19⟩ := cons_of_len hl18
    obtain ⟨u19, l20, rfl, hl20⟩ := cons_of_len hl19
    obtain ⟨u20, l21, rfl, hl21⟩ := cons_of_len hl20
    obtain ⟨u21, l22, rfl, hl22⟩ := cons_of_len hl21
    obtain ⟨u22, l23, rfl, hl23⟩ := cons_of_len hl22
    obtain ⟨u23, l24, rfl, hl24⟩ := cons_of_len hl23
    obtain ⟨u24, l25, rfl, hl25⟩ := cons_of_len hl24
    obtain ⟨u25, l26, rfl, hl26⟩ := cons_of_len hl25
    obtain ⟨u26, l27, rfl, hl27⟩ := cons_of_len hl26
    obtain ⟨u27, l28, rfl, hl28⟩ := cons_of_len hl27
    obtain ⟨u28, l29, rfl, hl29⟩ := cons_of_len hl28
    obtain ⟨u29, l30, rfl, hl30⟩ := cons_of_len hl29
    obtain ⟨u30, l31, rfl, hl31⟩ := cons_of_len hl30
    obtain ⟨u31, l32, rfl, hl32⟩ := cons_of_len hl31
    obtain ⟨u32, l33, rfl, hl33⟩ := cons_of_len hl32
    obtain ⟨u33, l34, rfl, hl34⟩ := cons_of_len hl33
    obtain ⟨u34, l35, rfl, hl35⟩ := cons_of_len hl34
    obtain ⟨u35, l36, rfl, hl36⟩ := cons_of_len hl35
    obtain ⟨u36, l37, rfl, hl37⟩ := cons_of_len hl36
    obtain ⟨u37, l38, rfl, hl38⟩ := cons_of_len hl37
    obtain ⟨u38, l39, rfl, hl39⟩ := cons_of_len hl38
    obtain ⟨u39, l40, rfl, hl40⟩ := cons_of_len hl39
    obtain ⟨u40, l41, rfl, hl41⟩ := cons_of_len hl40
    obtain ⟨u41, l42, rfl, hl42⟩ := cons_of_len hl41
    obtain ⟨u42, l43, rfl, hl43⟩ := cons_of_len hl42
    obtain ⟨u43, l44, rfl, hl44⟩ := cons_of_len hl43
    obtain ⟨u44, l45, rfl, hl45⟩ := cons_of_len hl44
    obtain ⟨u45, l46, rfl, hl46⟩ := cons_of_len hl45
    obtain ⟨u46, l47, rfl, hl47⟩ := cons_of_len hl46
    obtain ⟨u47, l48, rfl, hl48⟩ := cons_of_len hl47
    obtain ⟨u48, l49, rfl, hl49⟩ := cons_of_len hl48
    obtain ⟨u49, l50, rfl, hl50⟩ := cons_of_len hl49
    obtain ⟨u50, l51, rfl, hl51⟩ := cons_of_len hl50
    obtain ⟨u51, l52, rfl, hl52⟩ := cons_of_len hl51
    obtain ⟨u52, l53, rfl, hl53⟩ := cons_of_len hl52
    obtain ⟨u53, l54, rfl, hl54⟩ := cons_of_len hl53
    obtain ⟨u54, l55, rfl, hl55⟩ := cons_of_len hl54
    obtain ⟨u55, l56, rfl, hl56⟩ := cons_of_len hl55
    obtain ⟨u56, l57, rfl, hl57⟩ := cons_of_len hl56
    obtain ⟨u57, l58, rfl, hl58⟩ := cons_of_len hl57
    obtain ⟨u58, l59, rfl, hl59⟩ := cons_of_len hl58
    obtain ⟨u59, l60, rfl, hl60⟩ := cons_of_len hl59
    obtain ⟨u60, l61, rfl, hl61⟩ := cons_of_len hl60
    obtain ⟨u61, l62, rfl, hl62⟩ := cons_of_len hl61
    obtain ⟨u62, l63, rfl, hl63⟩ := cons_of_len hl62
    obtain rfl := List.length_eq_zero_iff.1 hl63
    obtain rfl : u5 = .int .i64 (firstAt 0 (numLooks g)).2.2 := by simpa using h5
    clear h5 hl63
    obtain ⟨r, hr⟩ : ∃ r, firstAt 0 (numLooks g) = r := ⟨_, rfl⟩
    rw [hr]
    have HR := hid hr
    clear hr
    go_wp2_with fail
    go_ret
    exact ⟨ret_iE (by rw [HR.out]), hfin⟩

theorem firstAt_seven : ∀ (l : List (Int × Int)) (k : Nat), (∀ p ∈ l, p.2 = 0 ∨ p.2 = 7) → (firstAt k l).2.2 = 0 ∨ (firstAt k l).2.2 = 7
  | [], _, _ => .inl rfl
  | (a, e) :: r, k, h => by
    unfold firstAt
    by_cases h0 : e = 0
    · rw [if_neg (by simp [h0])]
      exact firstAt_seven r _ fun p hp => h p (List.mem_cons_of_mem _ hp)
    · rw [if_pos h0]
      exact .inr ((h (a, e) List.mem_cons_self).resolve_left h0)
theorem each_seven {f : Nat → Int} (hf : ∀ i, f i = 0 ∨ f i = 7) : ∀ (n k : Nat), (eachP f k n).2 = 0 ∨ (eachP f k n).2 = 7
  | 0, _ => .inl rfl
  | n + 1, k => by
    unfold eachP
    split
    · rename_i h; exact .inr ((hf k).resolve_left h)
    · exact each_seven hf n (k + 1)
theorem wit_seven (lo hi : Int) (l : List Int) (i : Nat) : witE lo hi l i = 0 ∨ witE lo hi l i = 7 := by unfold witE; split <;> simp
theorem must_seven (b : Bool) : (mustP b 0 7).2 = 0 ∨ (mustP b 0 7).2 = 7 := by cases b <;> simp [mustP]
theorem wit_zero {lo hi : Int} {l : List Int} {n : Nat} (hn : l.length = n) : (eachP (witE lo hi l) 0 n).2 = 0 ↔ ∀ x ∈ l, inB x lo hi = true := by
  subst hn
  rw [each_all0]
  constructor
  · intro h x hx
    obtain ⟨i, hi, rfl⟩ := List.getElem_of_mem hx
    have := h i (Nat.zero_le _) (by omega)
    unfold witE at this
    split at this
    · cases this
    · rename_i hne; simpa [List.getD, hi] using hne
  · intro h i _ hi
    have hi' : i < l.length := by omega
    unfold witE
    rw [if_neg]
    simp [List.getD, hi', h _ (List.getElem_mem hi')]
theorem numE_eq (g : Gt) : (firstAt 0 (numLooks g)).2.2 = numE g := by
  have h7 := firstAt_seven (numLooks g) 0 (by
    intro p hp
    simp only [numLooks, List.mem_cons, List.not_mem_nil, or_false] at hp
    rcases hp with rfl | rfl | rfl | rfl | rfl | rfl | rfl | rfl
    all_goals first | exact must_seven _ | exact each_seven (wit_seven _ _ _) _ _)
  have hz : (firstAt 0 (numLooks g)).2.2 = 0 ↔ numB g = true := by
    rw [firstAt_all]
    unfold numLooks numB
    simp only [List.mem_cons, List.not_mem_nil, or_false, forall_eq_or_imp, forall_eq]
    rw [must_zero (by decide), must_zero (by decide), wit_zero (n := 2) rfl, wit_zero (n := 1) rfl, wit_zero (n := 3) rfl, wit_zero (n := 2) rfl, wit_zero (n := 3) rfl, wit_zero (n := 1) rfl]
    simp only [List.mem_cons, List.not_mem_nil, or_false, forall_eq_or_imp, forall_eq, Bool.and_eq_true]
    constructor
    · rintro ⟨⟨a1, a2⟩, a3, ⟨a4, a5⟩, a6, ⟨a7, a8, a9⟩, ⟨a10, a11⟩, ⟨a12, a13, a14⟩, a15⟩
      exact ⟨⟨⟨⟨⟨⟨⟨⟨⟨⟨⟨⟨⟨⟨a1, a2⟩, a3⟩, a4⟩, a5⟩, a6⟩, a7⟩, a8⟩, a9⟩, a10⟩, a11⟩, a12⟩, a13⟩, a14⟩, a15⟩
    · rintro ⟨⟨⟨⟨⟨⟨⟨⟨⟨⟨⟨⟨⟨⟨a1, a2⟩, a3⟩, a4⟩, a5⟩, a6⟩, a7⟩, a8⟩, a9⟩, a10⟩, a11⟩, a12⟩, a13⟩, a14⟩, a15⟩
      exact ⟨⟨a1, a2⟩, a3, ⟨a4, a5⟩, a6, ⟨a7, a8, a9⟩, ⟨a10, a11⟩, ⟨a12, a13, a14⟩, a15⟩
  unfold numE
  split
  · rename_i h; exact hz.2 h
  · rename_i h; exact h7.resolve_left fun e => h (hz.1 e)
theorem numbersErr_any (g : Gt) (p : GtP) (w : World) :
    Calls Tryz.prog 96 #[.agg (gtL g p).toArray] w fun e w' => e = .returned (.int .i64 (numE g)) ∧ Below w.heap.size w w' := by
  rw [← numE_eq]; exact numbersError_any g p w
end Go.Proofs.YtdoklolinbmhpaaGreat
