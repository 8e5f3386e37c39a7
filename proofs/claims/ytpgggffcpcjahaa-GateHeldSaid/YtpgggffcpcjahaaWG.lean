/- Gate, part WG: the check of a set: the rules; the set. -/
import Derived.Test.YtpgggffcpcjahaaWF
set_option linter.all false
namespace Go.Proofs.Ytpgggffcpcjahaa
open Go.RowKit

set_option maxRecDepth 100000 in
set_option maxHeartbeats 2000000 in
theorem ruleError_any (r : Ru) (n : Nat) (w : World) (hn : n ≤ 140737488355328) :
    Calls Try.prog 90 #[.agg #[.int .i64 r.gate, .int .i64 r.other, .int .i64 r.lo, .int .i64 r.hi], .int .i64 n] w fun e w' => e = .returned (.int .i64 (ruE n r)) ∧ Below w.heap.size w w' := by
  obtain ⟨a, ha⟩ : ∃ a, inB r.gate 0 ((n : Int) - 1) = a := ⟨_, rfl⟩
  obtain ⟨b, hb⟩ : ∃ b, inB r.other 0 ((n : Int) - 1) = b := ⟨_, rfl⟩
  obtain ⟨c, hc⟩ : ∃ c, inB r.lo 0 r.hi = c := ⟨_, rfl⟩
  obtain ⟨d, hd⟩ : ∃ d, inB r.hi 0 5000 = d := ⟨_, rfl⟩
  have HE := hid (show ruE n r = if a = false ∨ b = false then 4 else if r.gate = r.other then 2 else if c = false ∨ d = false then 7 else 0 by rw [← ha, ← hb, ← hc, ← hd]; rfl)
  have HA := hid ha; have HB := hid hb; have HC := hid hc; have HD := hid hd
  have w1 : IntKind.i64.wrap ((n : Int) - 1) = (n : Int) - 1 := IntWalk.i64_in _ (by omega)
  clear ha hb hc hd
  cases a
  · go_enter Try.func90, Try.ntmps90
    go_wp2_with ((with_reducible refine (in_val _ _ _ _ _ HA.out).mono ?_); rintro e w' ⟨rfl, rfl⟩)
    go_ret
    exact ⟨ret_iE (by rw [HE.out]; simp), (Below.refl _ _).alloc (Nat.le_refl _) _⟩
  cases b
  · go_enter Try.func90, Try.ntmps90
    go_wp2_with (first | ((with_reducible refine (in_val _ _ _ _ _ HA.out).mono ?_); rintro e w' ⟨rfl, rfl⟩) | ((with_reducible refine (in_val _ _ _ _ _ HB.out).mono ?_); rintro e w' ⟨rfl, rfl⟩))
    go_ret
    exact ⟨ret_iE (by rw [HE.out]; simp), (Below.refl _ _).alloc (Nat.le_refl _) _⟩
  by_cases he : r.gate = r.other
  · have HEq := hid he
    have q : (r.gate == r.other) = true := by simp [he]
    clear he
    go_enter Try.func90, Try.ntmps90
    go_wp2_with (first | ((with_reducible refine (in_val _ _ _ _ _ HA.out).mono ?_); rintro e w' ⟨rfl, rfl⟩) | ((with_reducible refine (in_val _ _ _ _ _ HB.out).mono ?_); rintro e w' ⟨rfl, rfl⟩))
    go_ret
    exact ⟨ret_iE (by rw [HE.out, if_neg (by simp), if_pos HEq.out]), (Below.refl _ _).alloc (Nat.le_refl _) _⟩
  have HEq := hid he
  have q : (r.gate == r.other) = false := by simp [he]
  clear he
  cases c
  · go_enter Try.func90, Try.ntmps90
    go_wp2_with (first | ((with_reducible refine (in_val _ _ _ _ _ HA.out).mono ?_); rintro e w' ⟨rfl, rfl⟩) | ((with_reducible refine (in_val _ _ _ _ _ HB.out).mono ?_); rintro e w' ⟨rfl, rfl⟩) | ((with_reducible refine (in_val _ _ _ _ _ HC.out).mono ?_); rintro e w' ⟨rfl, rfl⟩))
    go_ret
    exact ⟨ret_iE (by rw [HE.out, if_neg (by simp), if_neg HEq.out]; simp), (Below.refl _ _).alloc (Nat.le_refl _) _⟩
  cases d
  all_goals
    go_enter Try.func90, Try.ntmps90
    go_wp2_with (first | ((with_reducible refine (in_val _ _ _ _ _ HA.out).mono ?_); rintro e w' ⟨rfl, rfl⟩) | ((with_reducible refine (in_val _ _ _ _ _ HB.out).mono ?_); rintro e w' ⟨rfl, rfl⟩) | ((with_reducible refine (in_val _ _ _ _ _ HC.out).mono ?_); rintro e w' ⟨rfl, rfl⟩) | ((with_reducible refine (in_val _ _ _ _ _ HD.out).mono ?_); rintro e w' ⟨rfl, rfl⟩))
    go_ret
    exact ⟨ret_iE (by rw [HE.out, if_neg (by simp), if_neg HEq.out]; simp), (Below.refl _ _).alloc (Nat.le_refl _) _⟩

def ruF (n : Nat) (rs : List Ru) : Nat → Int := fun i => ruE n (rs.getD i default)
theorem callFunc_rus1 (args : Array Value) (w : World) : (callFunc 89 args).run Try.prog w = .ok (.enter 89 args) w := by simp [go_sem]
theorem keepRu {w x y : World} {lb b o i n gc rc m : Nat} {ga : Option Addr} {r : Ru} (hlb : lb < w.heap.size) (hb : b < w.heap.size) (hxy : Below x.heap.size x y) (h : Below w.heap.size w x ∧ x.cell? ⟨lb, 0, none⟩ = some (.slice ga n gc) ∧ x.cell? ⟨lb, 1, none⟩ = some (.slice (some ⟨b, o, none⟩) m rc) ∧ x.cell? ⟨b, o + i * 4, none⟩ = some (.int .i64 r.gate) ∧ x.cell? ⟨b, o + i * 4 + 1, none⟩ = some (.int .i64 r.other) ∧ x.cell? ⟨b, o + i * 4 + 2, none⟩ = some (.int .i64 r.lo) ∧ x.cell? ⟨b, o + i * 4 + 3, none⟩ = some (.int .i64 r.hi)) :
    Below w.heap.size w y ∧ y.cell? ⟨lb, 0, none⟩ = some (.slice ga n gc) ∧ y.cell? ⟨lb, 1, none⟩ = some (.slice (some ⟨b, o, none⟩) m rc) ∧ y.cell? ⟨b, o + i * 4, none⟩ = some (.int .i64 r.gate) ∧ y.cell? ⟨b, o + i * 4 + 1, none⟩ = some (.int .i64 r.other) ∧ y.cell? ⟨b, o + i * 4 + 2, none⟩ = some (.int .i64 r.lo) ∧ y.cell? ⟨b, o + i * 4 + 3, none⟩ = some (.int .i64 r.hi) := by
  obtain ⟨h0, h1, h2, h3, h4, h5, h6⟩ := h
  have hs := h0.size
  have c : ∀ q j, q < w.heap.size → y.cell? ⟨q, j, none⟩ = x.cell? ⟨q, j, none⟩ := fun q j hq => hxy.cell (p := ⟨q, j, none⟩) (by show q < x.heap.size; omega)
  exact ⟨h0.trans (hxy.mono hs), (c _ _ hlb).trans h1, (c _ _ hlb).trans h2, (c _ _ hb).trans h3, (c _ _ hb).trans h4, (c _ _ hb).trans h5, (c _ _ hb).trans h6⟩
set_option maxRecDepth 100000 in
set_option maxHeartbeats 2000000 in
theorem rus1_any (lb b o rc i n gc : Nat) (ga : Option Addr) (rs : List Ru) (hi : i < rs.length) (hn8 : n ≤ 140737488355328) (w : World) (h0 : w.cell? ⟨lb, 0, none⟩ = some (.slice ga n gc)) (h1 : w.cell? ⟨lb, 1, none⟩ = some (.slice (some ⟨b, o, none⟩) rs.length rc))
    (hlb : lb < w.heap.size) (hb : b < w.heap.size) (hat : w.rangeAt b (o + i * 4) (ruL rs[i])) :
    Calls Try.prog 89 #[.int .i64 i, .pointer (some ⟨lb, 0, none⟩)] w fun e w' => e = .returned (.int .i64 (ruE n (rs.getD i default))) ∧ Below w.heap.size w w' := by
  rw [show rs.getD i default = rs[i] by simp [List.getD, hi]]
  generalize rs[i] = r at *
  have k0 := hat 0 _ (show (ruL r)[0]? = some (.int .i64 r.gate) from rfl)
  have k1 := hat 1 _ (show (ruL r)[1]? = some (.int .i64 r.other) from rfl)
  have k2 := hat 2 _ (show (ruL r)[2]? = some (.int .i64 r.lo) from rfl)
  have k3 := hat 3 _ (show (ruL r)[3]? = some (.int .i64 r.hi) from rfl)
  rw [Nat.add_zero] at k0
  have HR := hid (fun W => ruleError_any r n W hn8)
  generalize ruE n r = re at *
  have hiI : (i : Int) < (rs.length : Int) := by omega
  have hi0 : (0 : Int) ≤ (i : Int) := Int.natCast_nonneg _
  clear hat
  go_enter Try.func89, Try.ntmps89
  go_wp2_with fail
  refine wp_region_noPanic ?_
  refine wp_region_held_drew (S := (fun w' => Below w.heap.size w w' ∧ w'.cell? ⟨lb, 0, none⟩ = some (.slice ga n gc) ∧ w'.cell? ⟨lb, 1, none⟩ = some (.slice (some ⟨b, o, none⟩) rs.length rc) ∧ w'.cell? ⟨b, o + i * 4, none⟩ = some (.int .i64 r.gate) ∧ w'.cell? ⟨b, o + i * 4 + 1, none⟩ = some (.int .i64 r.other) ∧ w'.cell? ⟨b, o + i * 4 + 2, none⟩ = some (.int .i64 r.lo) ∧ w'.cell? ⟨b, o + i * 4 + 3, none⟩ = some (.int .i64 r.hi))) (by kernel_rfl) ?_ (fun hHeld => ?_)
  · exact ⟨(Below.refl _ _).drew, by simpa using h0, by simpa using h1, by simpa using k0, by simpa using k1, by simpa using k2, by simpa using k3⟩
  refine wpAnyH_take (i := 0) (oi := { dst := _, op := _, type := _, pos := _, after := _, guard := _ }) (v := ?_) rfl (by kernel_rfl) (by kernel_rfl) (by kernel_rfl) (fun _ _ _ h => h) (Or.inl ⟨by rfl, ?_⟩) (by assumption) ?_
  rotate_left
  · intro wS hSw; (try dsimp only at hSw); go_simp; try (with_reducible rfl)
  try simp only [Act.put, List.setIfInBounds_toArray, List.set_cons_zero, List.set_cons_succ]
  refine wpAnyH_take (i := 1) (oi := { dst := _, op := _, type := _, pos := _, after := _, guard := _ }) (v := ?_) rfl (by kernel_rfl) (by kernel_rfl) (by kernel_rfl) (fun _ _ _ h => h) (Or.inl ⟨by rfl, ?_⟩) (by assumption) ?_
  rotate_left
  · intro wS hSw; (try dsimp only at hSw); go_simp; try (with_reducible rfl)
  try simp only [Act.put, List.setIfInBounds_toArray, List.set_cons_zero, List.set_cons_succ]
  refine wpAnyH_take (i := 2) (oi := { dst := _, op := _, type := _, pos := _, after := _, guard := _ }) (v := ?_) rfl (by kernel_rfl) (by kernel_rfl) (by kernel_rfl) (fun _ _ _ h => h) (Or.inl ⟨by rfl, ?_⟩) (by assumption) ?_
  rotate_left
  · intro wS hSw; (try dsimp only at hSw); go_simp; try (with_reducible rfl)
  try simp only [Act.put, List.setIfInBounds_toArray, List.set_cons_zero, List.set_cons_succ]
  refine wpAnyH_take (i := 3) (oi := { dst := _, op := _, type := _, pos := _, after := _, guard := _ }) (v := ?_) rfl (by kernel_rfl) (by kernel_rfl) (by kernel_rfl) (fun _ _ _ h => h) (Or.inl ⟨by rfl, ?_⟩) (by assumption) ?_
  rotate_left
  · intro wS hSw; (try dsimp only at hSw); go_simp; try (with_reducible rfl)
  try simp only [Act.put, List.setIfInBounds_toArray, List.set_cons_zero, List.set_cons_succ]
  refine wpAnyH_take (i := 4) (oi := { dst := _, op := _, type := _, pos := _, after := _, guard := _ }) (v := ?_) rfl (by kernel_rfl) (by kernel_rfl) (by kernel_rfl) (fun _ _ _ h => h) (Or.inl ⟨by rfl, ?_⟩) (by assumption) ?_
  rotate_left
  · intro wS hSw; (try dsimp only at hSw); go_simp; try (with_reducible rfl)
  try simp only [Act.put, List.setIfInBounds_toArray, List.set_cons_zero, List.set_cons_succ]
  refine wpAnyH_take (i := 5) (oi := { dst := _, op := _, type := _, pos := _, after := _, guard := _ }) (v := ?_) rfl (by kernel_rfl) (by kernel_rfl) (by kernel_rfl) (fun _ _ _ h => h) (Or.inl ⟨by rfl, ?_⟩) (by assumption) ?_
  rotate_left
  · intro wS hSw; (try dsimp only at hSw); go_simp; try (with_reducible rfl)
  try simp only [Act.put, List.setIfInBounds_toArray, List.set_cons_zero, List.set_cons_succ]
  refine wpAnyH_take (i := 6) (oi := { dst := _, op := _, type := _, pos := _, after := _, guard := _ }) (v := ?_) rfl (by kernel_rfl) (by kernel_rfl) (by kernel_rfl) (fun _ _ _ h => h) (Or.inl ⟨by rfl, ?_⟩) (by assumption) ?_
  rotate_left
  · intro wS hSw; (try dsimp only at hSw); go_simp; try (with_reducible rfl)
  try simp only [Act.put, List.setIfInBounds_toArray, List.set_cons_zero, List.set_cons_succ]
  refine wpAnyH_take (i := 7) (oi := { dst := _, op := _, type := _, pos := _, after := _, guard := _ }) (v := ?_) rfl (by kernel_rfl) (by kernel_rfl) (by kernel_rfl) (fun _ _ _ h => h) (Or.inl ⟨by rfl, ?_⟩) (by assumption) ?_
  rotate_left
  · intro wS hSw; (try dsimp only at hSw); go_simp; try (with_reducible rfl)
  try simp only [Act.put, List.setIfInBounds_toArray, List.set_cons_zero, List.set_cons_succ]
  refine wpAnyH_ready (rs := [8]) (by kernel_rfl) (by simp) ?_
  refine AllReadyH.cons (o := { dst := _, op := _, type := _, pos := _, after := _, guard := _ }) rfl (fun K hK => ?_) AllReadyH.nil
  go_simp
  (go_at_call 90; (with_reducible refine (HR.out _).mono ?_); rintro e w' ⟨rfl, hbe⟩)
  try go_wp2_with fail
  refine hK.out _ _ ?_ (fun hHeld => ?_)
  · (try dsimp only); first | assumption | exact keepRu (by omega) (by omega) (by assumption) (by assumption)
  clear hK K
  try simp only [Act.put, List.setIfInBounds_toArray, List.set_cons_zero, List.set_cons_succ]
  refine wpAnyH_take (i := 9) (oi := { dst := _, op := _, type := _, pos := _, after := _, guard := _ }) (v := ?_) rfl (by kernel_rfl) (by kernel_rfl) (by kernel_rfl) (fun _ _ _ h => h) (Or.inl ⟨by rfl, ?_⟩) (by assumption) ?_
  rotate_left
  · intro wS hSw; (try dsimp only at hSw); go_simp; try (with_reducible rfl)
  try simp only [Act.put, List.setIfInBounds_toArray, List.set_cons_zero, List.set_cons_succ]
  refine wpAnyH_done (by kernel_rfl) ?_ _
  refine NoPanic.normal ?_
  have hfin := (by assumption : Below w.heap.size w _ ∧ World.cell? _ ⟨lb, 0, none⟩ = some (.slice ga n gc) ∧ _ ∧ _ ∧ _ ∧ _ ∧ _).1
  clear hHeld
  go_wp2_with fail
  go_ret
  exact ⟨rfl, hfin⟩
set_option maxRecDepth 100000 in
set_option maxHeartbeats 2000000 in
theorem checkRules_any (z : SetV) (w : World) (hok : SetOk w z) :
    Calls Try.prog 41 #[.agg #[.slice z.ga z.gs.length z.gc, .slice z.ra z.rs.length z.rc]] w fun e w' => e = .returned (.tuple #[.int .i64 (rusP z.gs.length z.rs).1, .int .i64 (rusP z.gs.length z.rs).2]) ∧ Below w.heap.size w w' := by
  have HO := hid (show rusP z.gs.length z.rs = (firstAt 0 [mustP (decide ((z.rs.length : Int) ≤ 12)) 0 3, eachP (ruF z.gs.length z.rs) 0 z.rs.length]).2 from rfl)
  generalize rusP z.gs.length z.rs = op at *
  go_enter Try.func41, Try.ntmps41
  go_wp2_with fail
  generalize hW1 : World.alloc w _ = W1
  have B1 : Below w.heap.size w W1 := by rw [← hW1]; exact (Below.refl _ _).alloc (Nat.le_refl _) _
  have hB1 : w.heap.size + 1 ≤ W1.heap.size := by rw [← hW1]; simp
  have c2 : W1.cell? ⟨w.heap.size, 0, none⟩ = some (.slice z.ga z.gs.length z.gc) := by rw [← hW1]; simp [go_sem]
  have c3 : W1.cell? ⟨w.heap.size, 1, none⟩ = some (.slice z.ra z.rs.length z.rc) := by rw [← hW1]; simp [go_sem]
  clear hW1
  have HI : Hid (ChkI (w.heap.size + 1) W1 89 #[.pointer (some ⟨w.heap.size, 0, none⟩)] z.rs.length (ruF z.gs.length z.rs)) := by
    refine hid ⟨callFunc_rus1, fun i hi W hW => ?_⟩
    obtain ⟨b, o, ha, hb, hat⟩ := hok.rules.row (by omega)
    have hWw := B1.trans (hW.mono (by omega))
    refine rus1_any w.heap.size b o z.rc i z.gs.length z.gc z.ga z.rs hi hok.glen.2 W ?_ ?_ (by have := hW.size; omega) (by have := hWw.size; omega) (range_later (hat i hi) hWw hb)
    · rw [hW.cell (p := ⟨w.heap.size, 0, none⟩) (by show w.heap.size < _; omega), c2]
    · rw [hW.cell (p := ⟨w.heap.size, 1, none⟩) (by show w.heap.size < _; omega), c3, ha]
  clear c2
  refine wp_region_noPanic ?_
  refine wp_region_held_drew (S := (fun w' => Below (w.heap.size + 1) W1 w' ∧ w'.cell? ⟨w.heap.size, 1, none⟩ = some (.slice z.ra z.rs.length z.rc))) (by kernel_rfl) ?_ (fun hHeld => ?_)
  · exact ⟨(Below.refl _ _).drew, by simpa using c3⟩
  refine wpAnyH_take (i := 0) (oi := { dst := _, op := _, type := _, pos := _, after := _, guard := _ }) (v := ?_) rfl (by kernel_rfl) (by kernel_rfl) (by kernel_rfl) (fun _ _ _ h => h) (Or.inl ⟨by rfl, ?_⟩) (by assumption) ?_
  rotate_left
  · intro wS hSw; (try dsimp only at hSw); go_simp; try (with_reducible rfl)
  try simp only [Act.put, List.setIfInBounds_toArray, List.set_cons_zero, List.set_cons_succ]
  refine wpAnyH_take (i := 1) (oi := { dst := _, op := _, type := _, pos := _, after := _, guard := _ }) (v := ?_) rfl (by kernel_rfl) (by kernel_rfl) (by kernel_rfl) (fun _ _ _ h => h) (Or.inl ⟨by rfl, ?_⟩) (by assumption) ?_
  rotate_left
  · intro wS hSw; (try dsimp only at hSw); go_simp; try (with_reducible rfl)
  try simp only [Act.put, List.setIfInBounds_toArray, List.set_cons_zero, List.set_cons_succ]
  refine wpAnyH_take (i := 2) (oi := { dst := _, op := _, type := _, pos := _, after := _, guard := _ }) (v := ?_) rfl (by kernel_rfl) (by kernel_rfl) (by kernel_rfl) (fun _ _ _ h => h) (Or.inl ⟨by rfl, ?_⟩) (by assumption) ?_
  rotate_left
  · intro wS hSw; (try dsimp only at hSw); go_simp; try (with_reducible rfl)
  try simp only [Act.put, List.setIfInBounds_toArray, List.set_cons_zero, List.set_cons_succ]
  refine wpAnyH_take (i := 3) (oi := { dst := _, op := _, type := _, pos := _, after := _, guard := _ }) (v := ?_) rfl (by kernel_rfl) (by kernel_rfl) (by kernel_rfl) (fun _ _ _ h => h) (Or.inl ⟨by rfl, ?_⟩) (by assumption) ?_
  rotate_left
  · intro wS hSw; (try dsimp only at hSw); go_simp; try (with_reducible rfl)
  try simp only [Act.put, List.setIfInBounds_toArray, List.set_cons_zero, List.set_cons_succ]
  refine wpAnyH_take (i := 5) (oi := { dst := _, op := _, type := _, pos := _, after := _, guard := _ }) (v := ?_) rfl (by kernel_rfl) (by kernel_rfl) (by kernel_rfl) (fun _ _ _ h => h) (Or.inl ⟨by rfl, ?_⟩) (by assumption) ?_
  rotate_left
  · intro wS hSw; (try dsimp only at hSw); go_simp; try (with_reducible rfl)
  try simp only [Act.put, List.setIfInBounds_toArray, List.set_cons_zero, List.set_cons_succ]
  refine wpAnyH_take (i := 6) (oi := { dst := _, op := _, type := _, pos := _, after := _, guard := _ }) (v := ?_) rfl (by kernel_rfl) (by kernel_rfl) (by kernel_rfl) (fun _ _ _ h => h) (Or.inl ⟨by rfl, ?_⟩) (by assumption) ?_
  rotate_left
  · intro wS hSw; (try dsimp only at hSw); go_simp; try (with_reducible rfl)
  try simp only [Act.put, List.setIfInBounds_toArray, List.set_cons_zero, List.set_cons_succ]
  refine wpAnyH_take (i := 7) (oi := { dst := _, op := _, type := _, pos := _, after := _, guard := _ }) (v := ?_) rfl (by kernel_rfl) (by kernel_rfl) (by kernel_rfl) (fun _ _ _ h => h) (Or.inl ⟨by rfl, ?_⟩) (by assumption) ?_
  rotate_left
  · intro wS hSw; (try dsimp only at hSw); go_simp; try (with_reducible rfl)
  try simp only [Act.put, List.setIfInBounds_toArray, List.set_cons_zero, List.set_cons_succ]
  refine wpAnyH_take (i := 8) (oi := { dst := _, op := _, type := _, pos := _, after := _, guard := _ }) (v := ?_) rfl (by kernel_rfl) (by kernel_rfl) (by kernel_rfl) (fun _ _ _ h => h) (Or.inl ⟨by rfl, ?_⟩) (by assumption) ?_
  rotate_left
  · intro wS hSw; (try dsimp only at hSw); go_simp; try (with_reducible rfl)
  try simp only [Act.put, List.setIfInBounds_toArray, List.set_cons_zero, List.set_cons_succ]
  refine wpAnyH_ready (rs := [4]) (by kernel_rfl) (by simp) ?_
  refine AllReadyH.cons (o := { dst := _, op := _, type := _, pos := _, after := _, guard := _ }) rfl (fun K hK => ?_) AllReadyH.nil
  go_simp
  (go_at_call 79; refine (must_any _ _ _ _).mono ?_; rintro e w' ⟨caps, rfl, hb, hchk⟩)
  try go_wp2_with fail
  refine hK.out _ _ ?_ (fun hHeld => ?_)
  · (try dsimp only); first | assumption | exact keepO (by assumption) (by assumption) (Nat.lt_succ_self _) hB1 | exact keepO ((Below.refl _ _).alloc (Nat.le_refl _) _) (by assumption) (Nat.lt_succ_self _) hB1
  clear hK K
  try simp only [Act.put, List.setIfInBounds_toArray, List.set_cons_zero, List.set_cons_succ]
  refine wpAnyH_ready (rs := [9]) (by kernel_rfl) (by simp) ?_
  refine AllReadyH.cons (o := { dst := _, op := _, type := _, pos := _, after := _, guard := _ }) rfl (fun K hK => ?_) AllReadyH.nil
  go_simp
  (go_at_call 81; refine (each_any (w.heap.size + 1) W1 z.rs.length (ruF z.gs.length z.rs) _ _ _ hok.rlen.2 (keepOLe hB1 (by assumption)) (by assumption : Below (w.heap.size + 1) W1 _ ∧ _).1 HI.out).mono ?_; rintro e w' ⟨caps2, rfl, hb2, hchk2⟩)
  try go_wp2_with fail
  refine hK.out _ _ ?_ (fun hHeld => ?_)
  · (try dsimp only); first | assumption | exact keepO (by assumption) (by assumption) (Nat.lt_succ_self _) hB1 | exact keepO ((Below.refl _ _).alloc (Nat.le_refl _) _) (by assumption) (Nat.lt_succ_self _) hB1
  clear hK K
  try simp only [Act.put, List.setIfInBounds_toArray, List.set_cons_zero, List.set_cons_succ]
  refine wpAnyH_ready (rs := [10]) (by kernel_rfl) (by simp) ?_
  refine AllReadyH.cons (o := { dst := _, op := _, type := _, pos := _, after := _, guard := _ }) rfl (fun K hK => ?_) AllReadyH.nil
  go_simp
  refine hK.out _ _ ?_ (fun hHeld => ?_)
  · (try dsimp only); first | assumption | exact keepO (by assumption) (by assumption) (Nat.lt_succ_self _) hB1 | exact keepO ((Below.refl _ _).alloc (Nat.le_refl _) _) (by assumption) (Nat.lt_succ_self _) hB1
  clear hK K
  try simp only [Act.put, List.setIfInBounds_toArray, List.set_cons_zero, List.set_cons_succ]
  refine wpAnyH_ready (rs := [11]) (by kernel_rfl) (by simp) ?_
  refine AllReadyH.cons (o := { dst := _, op := _, type := _, pos := _, after := _, guard := _ }) rfl (fun K hK => ?_) AllReadyH.nil
  go_simp
  (go_at_call 37; refine (first2_chain _ hchk hb2 hchk2).mono ?_; rintro e w' ⟨rfl, hb3⟩)
  try go_wp2_with fail
  refine hK.out _ _ ?_ (fun hHeld => ?_)
  · (try dsimp only); first | assumption | exact keepO (by assumption) (by assumption) (Nat.lt_succ_self _) hB1 | exact keepO ((Below.refl _ _).alloc (Nat.le_refl _) _) (by assumption) (Nat.lt_succ_self _) hB1
  clear hK K
  try simp only [Act.put, List.setIfInBounds_toArray, List.set_cons_zero, List.set_cons_succ]
  refine wpAnyH_take (i := 12) (oi := { dst := _, op := _, type := _, pos := _, after := _, guard := _ }) (v := ?_) rfl (by kernel_rfl) (by kernel_rfl) (by kernel_rfl) (fun _ _ _ h => h) (Or.inl ⟨by rfl, ?_⟩) (by assumption) ?_
  rotate_left
  · intro wS hSw; (try dsimp only at hSw); go_simp; try (with_reducible rfl)
  try simp only [Act.put, List.setIfInBounds_toArray, List.set_cons_zero, List.set_cons_succ]
  refine wpAnyH_take (i := 13) (oi := { dst := _, op := _, type := _, pos := _, after := _, guard := _ }) (v := ?_) rfl (by kernel_rfl) (by kernel_rfl) (by kernel_rfl) (fun _ _ _ h => h) (Or.inl ⟨by rfl, ?_⟩) (by assumption) ?_
  rotate_left
  · intro wS hSw; (try dsimp only at hSw); go_simp; try (with_reducible rfl)
  try simp only [Act.put, List.setIfInBounds_toArray, List.set_cons_zero, List.set_cons_succ]
  refine wpAnyH_take (i := 14) (oi := { dst := _, op := _, type := _, pos := _, after := _, guard := _ }) (v := ?_) rfl (by kernel_rfl) (by kernel_rfl) (by kernel_rfl) (fun _ _ _ h => h) (Or.inl ⟨by rfl, ?_⟩) (by assumption) ?_
  rotate_left
  · intro wS hSw; (try dsimp only at hSw); go_simp; try (with_reducible rfl)
  try simp only [Act.put, List.setIfInBounds_toArray, List.set_cons_zero, List.set_cons_succ]
  refine wpAnyH_take (i := 15) (oi := { dst := _, op := _, type := _, pos := _, after := _, guard := _ }) (v := ?_) rfl (by kernel_rfl) (by kernel_rfl) (by kernel_rfl) (fun _ _ _ h => h) (Or.inl ⟨by rfl, ?_⟩) (by assumption) ?_
  rotate_left
  · intro wS hSw; (try dsimp only at hSw); go_simp; try (with_reducible rfl)
  try simp only [Act.put, List.setIfInBounds_toArray, List.set_cons_zero, List.set_cons_succ]
  refine wpAnyH_take (i := 16) (oi := { dst := _, op := _, type := _, pos := _, after := _, guard := _ }) (v := ?_) rfl (by kernel_rfl) (by kernel_rfl) (by kernel_rfl) (fun _ _ _ h => h) (Or.inl ⟨by rfl, ?_⟩) (by assumption) ?_
  rotate_left
  · intro wS hSw; (try dsimp only at hSw); go_simp; try (with_reducible rfl)
  try simp only [Act.put, List.setIfInBounds_toArray, List.set_cons_zero, List.set_cons_succ]
  refine wpAnyH_take (i := 17) (oi := { dst := _, op := _, type := _, pos := _, after := _, guard := _ }) (v := ?_) rfl (by kernel_rfl) (by kernel_rfl) (by kernel_rfl) (fun _ _ _ h => h) (Or.inl ⟨by rfl, ?_⟩) (by assumption) ?_
  rotate_left
  · intro wS hSw; (try dsimp only at hSw); go_simp; try (with_reducible rfl)
  try simp only [Act.put, List.setIfInBounds_toArray, List.set_cons_zero, List.set_cons_succ]
  refine wpAnyH_done (by kernel_rfl) ?_ _
  refine NoPanic.normal ?_
  have hfin := (by assumption : Below (w.heap.size + 1) W1 _ ∧ World.cell? _ ⟨w.heap.size, 1, none⟩ = some (.slice z.ra z.rs.length z.rc)).1
  generalize firstAt 0 _ = r at *
  go_wp2_with fail
  go_ret2
  exact ⟨ret_two (by rw [HO.out]) (by rw [HO.out]), B1.trans (hfin.mono (by omega))⟩
theorem callFunc_set1 (args : Array Value) (w : World) : (callFunc 38 args).run Try.prog w = .ok (.enter 38 args) w := by simp [go_sem]
theorem callFunc_set2 (args : Array Value) (w : World) : (callFunc 40 args).run Try.prog w = .ok (.enter 40 args) w := by simp [go_sem]
set_option maxRecDepth 100000 in
set_option maxHeartbeats 1000000 in
theorem set1_any (tb : Nat) (z : SetV) (w : World) (hok : SetOk w z) (c0 : w.cell? ⟨tb, 0, none⟩ = some (.slice z.ga z.gs.length z.gc)) :
    Calls Try.prog 38 #[.pointer (some ⟨tb, 0, none⟩)] w fun e w' => e = .returned (.tuple #[.int .i64 (gasP z.gs).1, .int .i64 (gasP z.gs).2]) ∧ Below w.heap.size w w' := by
  have HC := hid (checkGates_any z.ga z.gs z.gc z.ps w hok.gates hok.glen)
  generalize gasP z.gs = q at *
  clear hok
  go_enter Try.func38, Try.ntmps38
  go_wp2_with fail
  refine (HC.out).mono ?_
  rintro e w' ⟨rfl, hb⟩
  go_wp2_with fail
  go_ret2
  exact ⟨rfl, hb⟩
set_option maxRecDepth 100000 in
set_option maxHeartbeats 1000000 in
theorem set2_any (tb : Nat) (z : SetV) (w : World) (hok : SetOk w z) (c0 : w.cell? ⟨tb, 0, none⟩ = some (.slice z.ga z.gs.length z.gc)) (c1 : w.cell? ⟨tb, 1, none⟩ = some (.slice z.ra z.rs.length z.rc)) :
    Calls Try.prog 40 #[.pointer (some ⟨tb, 0, none⟩)] w fun e w' => e = .returned (.tuple #[.int .i64 (rusP z.gs.length z.rs).1, .int .i64 (rusP z.gs.length z.rs).2]) ∧ Below w.heap.size w w' := by
  have HC := hid (checkRules_any z w hok)
  generalize rusP z.gs.length z.rs = q at *
  clear hok
  go_enter Try.func40, Try.ntmps40
  go_wp2_with fail
  refine (HC.out).mono ?_
  rintro e w' ⟨rfl, hb⟩
  go_wp2_with fail
  go_ret2
  exact ⟨rfl, hb⟩
set_option maxRecDepth 100000 in
set_option maxHeartbeats 2000000 in
theorem checkSet_any (z : SetV) (w : World) (hok : SetOk w z) :
    Calls Try.prog 15 #[.agg #[.slice z.ga z.gs.length z.gc, .slice z.ra z.rs.length z.rc]] w fun e w' => e = .returned (.tuple #[.int .i64 (setP z.gs z.rs).1, .int .i64 (setP z.gs z.rs).2.1, .int .i64 (setP z.gs z.rs).2.2]) ∧ Below w.heap.size w w' := by
  have HP := hid (show setP z.gs z.rs = firstAt 0 [gasP z.gs, rusP z.gs.length z.rs] from rfl)
  have HOk := hid hok
  clear hok
  go_enter Try.func15, Try.ntmps15
  go_wp2_with fail
  have B2 : Below w.heap.size w ((w.alloc (.cells #[.slice z.ga z.gs.length z.gc, .slice z.ra z.rs.length z.rc] 25)).alloc (.cells #[.func (.func 38) #[] #[.pointer (some ⟨w.heap.size, 0, none⟩)], .func (.func 40) #[] #[.pointer (some ⟨w.heap.size, 0, none⟩)]] 122)) := ((Below.refl _ _).alloc (Nat.le_refl _) _).alloc (by simp) _
  have hsz : ((w.alloc (.cells #[.slice z.ga z.gs.length z.gc, .slice z.ra z.rs.length z.rc] 25)).alloc (.cells #[.func (.func 38) #[] #[.pointer (some ⟨w.heap.size, 0, none⟩)], .func (.func 40) #[] #[.pointer (some ⟨w.heap.size, 0, none⟩)]] 122)).heap.size = w.heap.size + 2 := by simp
  have c0 : ((w.alloc (.cells #[.slice z.ga z.gs.length z.gc, .slice z.ra z.rs.length z.rc] 25)).alloc (.cells #[.func (.func 38) #[] #[.pointer (some ⟨w.heap.size, 0, none⟩)], .func (.func 40) #[] #[.pointer (some ⟨w.heap.size, 0, none⟩)]] 122)).cell? ⟨w.heap.size, 0, none⟩ = some (.slice z.ga z.gs.length z.gc) := by simp [go_sem]
  have c1 : ((w.alloc (.cells #[.slice z.ga z.gs.length z.gc, .slice z.ra z.rs.length z.rc] 25)).alloc (.cells #[.func (.func 38) #[] #[.pointer (some ⟨w.heap.size, 0, none⟩)], .func (.func 40) #[] #[.pointer (some ⟨w.heap.size, 0, none⟩)]] 122)).cell? ⟨w.heap.size, 1, none⟩ = some (.slice z.ra z.rs.length z.rc) := by simp [go_sem]
  have hcells : ∀ i, i < 2 → ((w.alloc (.cells #[.slice z.ga z.gs.length z.gc, .slice z.ra z.rs.length z.rc] 25)).alloc (.cells #[.func (.func 38) #[] #[.pointer (some ⟨w.heap.size, 0, none⟩)], .func (.func 40) #[] #[.pointer (some ⟨w.heap.size, 0, none⟩)]] 122)).cell? ⟨w.heap.size + 1, 0 + i, none⟩ = some (.func (.func (match i with | 0 => 38 | _ => 40)) #[] #[.pointer (some ⟨w.heap.size, 0, none⟩)]) := by
    intro i hi
    match i, hi with
    | 0, _ => simp [go_sem]
    | 1, _ => simp [go_sem]
  have HC := hid hcells
  clear hcells
  generalize hW2 : World.alloc (World.alloc w _) _ = W2 at *
  clear hW2
  refine (first_any W2.heap.size W2 [gasP z.gs, rusP z.gs.length z.rs] (w.heap.size + 1) 0 2 (fun i => match i with | 0 => 38 | _ => 40) (fun _ => #[.pointer (some ⟨w.heap.size, 0, none⟩)]) W2 (by simp) (Nat.le_refl _) (Below.refl _ _) (by omega) (fun i hi => HC.out i hi) (fun i hi => ?_)).mono ?_
  · have hi' : i < 2 := hi
    have hk : ∀ W, Below W2.heap.size W2 W → SetOk W z ∧ W.cell? ⟨w.heap.size, 0, none⟩ = some (.slice z.ga z.gs.length z.gc) ∧ W.cell? ⟨w.heap.size, 1, none⟩ = some (.slice z.ra z.rs.length z.rc) := fun W hW =>
      ⟨(HOk.out.later B2 (Nat.le_refl _)).later hW (Nat.le_refl _), (hW.cell (p := ⟨w.heap.size, 0, none⟩) (by show w.heap.size < _; omega)).trans c0, (hW.cell (p := ⟨w.heap.size, 1, none⟩) (by show w.heap.size < _; omega)).trans c1⟩
    match i, hi' with
    | 0, _ => exact ⟨callFunc_set1, fun W hW => set1_any _ z W (hk W hW).1 (hk W hW).2.1⟩
    | 1, _ => exact ⟨callFunc_set2, fun W hW => set2_any _ z W (hk W hW).1 (hk W hW).2.1 (hk W hW).2.2⟩
  rintro e w' ⟨rfl, hb⟩
  have hfin := B2.trans (hb.mono (by omega))
  rw [← HP.out]
  obtain ⟨r, hr⟩ : ∃ r, setP z.gs z.rs = r := ⟨_, rfl⟩
  rw [hr]
  have HQ := hid hr
  clear HC hsz B2 hb hr c0 c1
  go_wp2_with fail
  refine bodyPost_ret (v := .tuple #[.int .i64 r.1, .int .i64 r.2.1, .int .i64 r.2.2]) (by simp [results, Try.results15, go_sem]) rfl ⟨by rw [HQ.out], hfin⟩
end Go.Proofs.Ytpgggffcpcjahaa
