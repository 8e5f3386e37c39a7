/- Tide, part SQ: the walk of TideDiffers. -/
import Derived.Test.YtfjankkkeehioaaSP
import Derived.Test.YtfjankkkeehioaaTP
import Derived.Test.YtfjankkkeehioaaZQ
import Derived.Test.YtfjankkkeehioaaZI
set_option linter.all false
namespace Go.Proofs.Ytfjankkkeehioaa
open Go.RowKit Go.Shelf

theorem has_ok (a b n : Int) (w : World) (h1 : a ≤ n) (h2 : n ≤ b) :
    Calls Try.prog 44 #[.agg #[.int .i64 a, .int .i64 b], .int .i64 n] w fun e w' => e = .returned (.bool true) ∧ Below w.heap.size w w' := by
  go_enter Try.func44, Try.ntmps44
  go_wp2
  go_ret
  exact ⟨rfl, by repeat (first | exact Below.refl _ _ | refine Below.alloc ?_ (by simp <;> omega) _ | refine Below.drew ?_ | refine below_drewN ?_ _)⟩
theorem frac_in {d A : Int} (hd : 0 ≤ d) (h0 : 0 ≤ A) (h1 : A ≤ 255) : 0 ≤ (d * A).tdiv 255 ∧ (d * A).tdiv 255 ≤ d := by
  have hp : 0 ≤ d * A := Int.mul_nonneg hd h0
  rw [Int.tdiv_eq_ediv_of_nonneg hp]
  have hm : d * A ≤ d * 255 := Int.mul_le_mul_of_nonneg_left h1 hd
  omega
/-- What the three answers have to do with each other. -/
theorem differ {mean : Int} {cs : List Con} {gs : List Gau} {wrong t now : Int} {q r u : (Int × Int) × Int} (hq : ResIs mean cs gs wrong t now q) (hr : SoundIs gs wrong t now r) (hu : levelP mean cs t = u) :
    (q.2 ≠ 0 ∧ (r.2 ≠ 0 ∨ u.2 ≠ 0)) ∨ (q.2 = 0 ∧ r.2 = 0 ∧ u.2 = 0 ∧ q.1.1 = r.1.1 - u.1.2 ∧ q.1.2 = r.1.2 - u.1.1 ∧ (-20000 ≤ r.1.1 ∧ r.1.1 ≤ r.1.2 ∧ r.1.2 ≤ 20000) ∧ (-300000000 ≤ u.1.1 ∧ u.1.1 ≤ u.1.2 ∧ u.1.2 ≤ 300000000)) := by
  unfold ResIs at hq
  split at hq
  · rename_i h1
    left
    refine ⟨by rw [hq]; exact h1, .inr fun h0 => h1 (levelP_ok hu h0).1⟩
  rename_i h1
  have hc : (checkP mean cs).2 = 0 := Decidable.not_not.1 h1
  obtain ⟨r', hr', hq⟩ := hq
  have e := hr'.unique hr
  subst e
  by_cases h0 : r'.2 = 0
  · right
    rw [if_neg (by simp [h0])] at hq
    obtain ⟨_, hw, ht, hlo, hhi, hs⟩ := soundIs_ok hr' h0
    have hl := levelP_of hc ht
    rw [hu] at hl
    obtain ⟨hm, hcl, hg⟩ := tabGood_of hc
    have hh := levelAt_half hg hcl hm.1 hm.2 t
    have hle := levelAt_le (mean := mean) hg t
    have hrr : r'.1.1 ≤ r'.1.2 := by
      rcases hs with ⟨h, _⟩ | ⟨_, h2, h3, h4⟩
      · rw [h] at h0; cases h0
      · exact (h4 _ h3).1
    subst hq
    subst hl
    exact ⟨rfl, h0, rfl, rfl, rfl, ⟨hlo.1, hrr, hhi.2⟩, ⟨hh.1.1, hle, hh.2.2⟩⟩
  · left
    rw [if_pos h0] at hq
    rw [hq]
    exact ⟨h0, .inl h0⟩
theorem levelVal' (mean : Int) (a : Option Addr) (cap : Nat) (cs : List Con) (t : Int) (u : (Int × Int) × Int) (w : World) (hok : ConsOk w a cap cs) (hu : levelP mean cs t = u) :
    Calls Try.prog 23 #[.agg #[.int .i64 mean, .slice a cs.length cap], .int .i64 t] w
      fun e w' => e = .returned (.tuple #[.agg #[.int .i64 u.1.1, .int .i64 u.1.2], .int .i64 u.2]) ∧ Below w.heap.size w w' := by
  rw [← hu]; exact levelFn_any mean a cap cs t w hok

set_option maxRecDepth 100000 in
set_option maxHeartbeats 8000000 in
theorem lawDiffers_any (mean : Int) (ca : Option Addr) (cc : Nat) (cs : List Con) (a : Option Addr) (cap : Nat) (gs : List Gau) (x y z A B : Int) (w : World) (hok : ConsOk w ca cc cs) (hcap : gs.length ≤ cap) (hlen : gs.length ≤ 140737488355328) (hgs : GausAt w a gs) (hA : 0 ≤ A ∧ A ≤ 255) (hB : 0 ≤ B ∧ B ≤ 255) :
    Calls Try.prog 16 #[.agg #[.int .i64 mean, .slice ca cs.length cc], .slice a gs.length cap, .agg #[.int .i64 x, .int .i64 y, .int .i64 z, .int .u8 A, .int .u8 B]] w
      fun e w' => e = .returned (.bool true) ∧ Below w.heap.size w w' := by
  have HH := hid hok; have HGs := hid hgs; have HA := hid hA; have HB := hid hB; clear hok hgs hA hB
  go_enter Try.func16, Try.ntmps16
  go_wp2_with fail
  generalize hW1 : World.alloc (World.alloc w _) _ = W1
  have B1 : Below w.heap.size w W1 := by rw [← hW1]; repeat (first | exact Below.refl _ _ | refine Below.alloc ?_ (by simp <;> omega) _)
  have S1 : W1.heap.size = w.heap.size + 2 := by rw [← hW1]; simp
  have b0 : W1.cell? ⟨w.heap.size, 0, none⟩ = some (.int .i64 mean) := by rw [← hW1]; simp [go_sem]
  have b1 : W1.cell? ⟨w.heap.size, 1, none⟩ = some (.slice ca cs.length cc) := by rw [← hW1]; simp [go_sem]
  have e0 : W1.cell? ⟨w.heap.size + 1, 0, none⟩ = some (.int .i64 x) := by rw [← hW1]; simp [go_sem]
  have e1 : W1.cell? ⟨w.heap.size + 1, 1, none⟩ = some (.int .i64 y) := by rw [← hW1]; simp [go_sem]
  have e2 : W1.cell? ⟨w.heap.size + 1, 2, none⟩ = some (.int .i64 z) := by rw [← hW1]; simp [go_sem]
  have e3 : W1.cell? ⟨w.heap.size + 1, 3, none⟩ = some (.int .u8 A) := by rw [← hW1]; simp [go_sem]
  have e4 : W1.cell? ⟨w.heap.size + 1, 4, none⟩ = some (.int .u8 B) := by rw [← hW1]; simp [go_sem]
  clear hW1
  refine (residual_any mean ca cc cs a cap gs x y z _ (HH.out.later B1 (Nat.le_refl _)) hcap hlen (HGs.out.later B1 (Nat.le_refl _))).mono ?_
  rintro e W2 ⟨q, rfl, hq, B2⟩
  have hs2 := B2.size
  have BW2 : Below w.heap.size w W2 := B1.trans (B2.mono (by omega))
  have KT := hid (show ∀ V, Below W1.heap.size W1 V → (V.cell? ⟨w.heap.size, 0, none⟩ = some (.int .i64 mean) ∧ V.cell? ⟨w.heap.size, 1, none⟩ = some (.slice ca cs.length cc)) ∧ V.cell? ⟨w.heap.size + 1, 0, none⟩ = some (.int .i64 x) ∧ V.cell? ⟨w.heap.size + 1, 1, none⟩ = some (.int .i64 y) ∧ V.cell? ⟨w.heap.size + 1, 2, none⟩ = some (.int .i64 z) ∧ V.cell? ⟨w.heap.size + 1, 3, none⟩ = some (.int .u8 A) ∧ V.cell? ⟨w.heap.size + 1, 4, none⟩ = some (.int .u8 B) from fun V hV =>
    have c : ∀ b o, b < w.heap.size + 2 → V.cell? ⟨b, o, none⟩ = W1.cell? ⟨b, o, none⟩ := fun b o h => hV.cell (p := ⟨b, o, none⟩) (by show b < _; omega)
    ⟨⟨(c _ _ (by omega)).trans b0, (c _ _ (by omega)).trans b1⟩, (c _ _ (by omega)).trans e0, (c _ _ (by omega)).trans e1, (c _ _ (by omega)).trans e2, (c _ _ (by omega)).trans e3, (c _ _ (by omega)).trans e4⟩)
  clear b0 b1 e0 e1 e2 e3 e4
  obtain ⟨⟨b0, b1⟩, e0, e1, e2, e3, e4⟩ := KT.out W2 B2
  have HQ := hid hq; clear hq
  have n1 : w.heap.size + 1 < W2.heap.size := by omega
  go_wp2_with fail
  refine (sound_any a cap gs x y z _ hcap hlen (HGs.out.later (BW2.alloc (by omega) _) (Nat.le_refl _))).mono ?_
  rintro e W3 ⟨r, rfl, hr, B3⟩
  have hs3 := B3.size
  simp only [World.size_alloc] at hs3
  have B23 : Below W2.heap.size W2 W3 := ((Below.refl _ _).alloc (Nat.le_refl _) _).trans (B3.mono (by simp))
  have p0 : W3.cell? ⟨W2.heap.size, 0, none⟩ = some (.int .i64 q.1.1) := (B3.cell (p := ⟨W2.heap.size, 0, none⟩) (by simp)).trans (by simp [go_sem])
  have p1 : W3.cell? ⟨W2.heap.size, 1, none⟩ = some (.int .i64 q.1.2) := (B3.cell (p := ⟨W2.heap.size, 1, none⟩) (by simp)).trans (by simp [go_sem])
  have BW3 : Below w.heap.size w W3 := BW2.trans (B23.mono (by omega))
  have B13 : Below W1.heap.size W1 W3 := B2.trans (B23.mono hs2)
  have HR := hid hr; clear hr B3 b0 b1 e0 e1 e2 e3 e4 n1
  obtain ⟨⟨b0, b1⟩, e0, e1, e2, e3, e4⟩ := KT.out W3 B13
  have n1 : w.heap.size + 1 < W3.heap.size := by omega
  have n0 : w.heap.size < W3.heap.size := by omega
  obtain ⟨u, hu⟩ : ∃ u, levelP mean cs y = u := ⟨_, rfl⟩
  have HU := hid hu
  have HD := hid (differ HQ.out HR.out hu)
  clear hu
  go_wp2_with fail
  refine (levelVal' mean ca cc cs y u _ (HH.out.later (BW3.alloc (by omega) _) (Nat.le_refl _)) HU.out).mono ?_
  rintro e W4 ⟨rfl, B4⟩
  have hs4 := B4.size
  simp only [World.size_alloc] at hs4
  have B34 : Below W3.heap.size W3 W4 := ((Below.refl _ _).alloc (Nat.le_refl _) _).trans (B4.mono (by simp))
  have r0 : W4.cell? ⟨W3.heap.size, 0, none⟩ = some (.int .i64 r.1.1) := (B4.cell (p := ⟨W3.heap.size, 0, none⟩) (by simp)).trans (by simp [go_sem])
  have r1 : W4.cell? ⟨W3.heap.size, 1, none⟩ = some (.int .i64 r.1.2) := (B4.cell (p := ⟨W3.heap.size, 1, none⟩) (by simp)).trans (by simp [go_sem])
  have p0' := (B34.cell (p := ⟨W2.heap.size, 0, none⟩) (by show W2.heap.size < _; omega)).trans p0
  have p1' := (B34.cell (p := ⟨W2.heap.size, 1, none⟩) (by show W2.heap.size < _; omega)).trans p1
  have BW4 : Below w.heap.size w W4 := BW3.trans (B34.mono (by omega))
  have B14 : Below W1.heap.size W1 W4 := B13.trans (B34.mono (by omega))
  clear B4 b0 b1 e0 e1 e2 e3 e4 n1 n0 p0 p1
  obtain ⟨_, _, _, _, e3, e4⟩ := KT.out W4 B14
  have n1 : w.heap.size + 1 < W4.heap.size := by omega
  have n2 : W2.heap.size < W4.heap.size := by omega
  have n3 : W3.heap.size < W4.heap.size := by omega
  clear KT HQ HR HU B2 B23 B13 B34 B14
  rcases HD.out with ⟨h1, h2⟩ | ⟨h1, h2, h3, h4, h5, h6, h7⟩
  · have h1' : (q.2 != 0) = true := by simp [h1]
    by_cases hr0 : r.2 = 0
    · have hu0 : (u.2 != 0) = true := by have := h2.resolve_left (by simp [hr0]); simp [this]
      have hr0' : (r.2 != 0) = false := by simp [hr0]
      clear h1 h2 hr0 HD
      go_wp2_with fail
      refine (awake_any _).mono ?_
      rintro e W5 ⟨rfl, B5⟩
      have hs5 := B5.size
      simp only [World.size_alloc] at hs5
      have BW5 : Below w.heap.size w W5 := (BW4.alloc (by omega) _).trans (B5.mono (by simp; omega))
      clear B5
      go_wp2_with fail
      go_ret
      exact ⟨rfl, BW5⟩
    · have hr0' : (r.2 != 0) = true := by simp [hr0]
      clear h1 h2 hr0 HD
      go_wp2_with fail
      refine (awake_any _).mono ?_
      rintro e W5 ⟨rfl, B5⟩
      have hs5 := B5.size
      simp only [World.size_alloc] at hs5
      have BW5 : Below w.heap.size w W5 := (BW4.alloc (by omega) _).trans (B5.mono (by simp; omega))
      clear B5
      go_wp2_with fail
      go_ret
      exact ⟨rfl, BW5⟩
  · have h1' : (q.2 != 0) = false := by simp [h1]
    have h2' : (r.2 == 0) = true := by simp [h2]
    have h3' : (u.2 == 0) = true := by simp [h3]
    have hwA := frac_in (d := r.1.2 - r.1.1) (by omega) HA.out.1 HA.out.2
    have hwB := frac_in (d := u.1.2 - u.1.1) (by omega) HB.out.1 HB.out.2
    have hd : 0 ≤ r.1.2 - r.1.1 := by omega
    have hpA : 0 ≤ (r.1.2 - r.1.1) * A ∧ (r.1.2 - r.1.1) * A ≤ 40000 * 255 := ⟨Int.mul_nonneg (by omega) HA.out.1, Int.mul_le_mul (by omega) HA.out.2 HA.out.1 (by omega)⟩
    have hpB : 0 ≤ (u.1.2 - u.1.1) * B ∧ (u.1.2 - u.1.1) * B ≤ 600000000 * 255 := ⟨Int.mul_nonneg (by omega) HB.out.1, Int.mul_le_mul (by omega) HB.out.2 HB.out.1 (by omega)⟩
    have hA1 := HA.out; have hB1 := HB.out
    have heq : (r.1.2 - u.1.1 - (r.1.1 - u.1.2) == r.1.2 - r.1.1 + u.1.2 - u.1.1) = true := by simp only [beq_iff_eq]; omega
    have HEq := hid heq
    clear HD
    go_upto_region 6 with fail
    generalize hV : World.alloc W4 _ = V
    have BV : Below w.heap.size w V := by rw [← hV]; exact BW4.alloc (by omega) _
    have sV : V.heap.size = W4.heap.size + 1 := by rw [← hV]; simp
    have a0 : V.cell? ⟨W4.heap.size, 0, none⟩ = some (.int .i64 u.1.1) := by rw [← hV]; simp [go_sem]
    have a1 : V.cell? ⟨W4.heap.size, 1, none⟩ = some (.int .i64 u.1.2) := by rw [← hV]; simp [go_sem]
    have kV : Below W4.heap.size W4 V := by rw [← hV]; exact (Below.refl _ _).alloc (Nat.le_refl _) _
    have s0 := (kV.cell (p := ⟨W3.heap.size, 0, none⟩) n3).trans r0
    have s1 := (kV.cell (p := ⟨W3.heap.size, 1, none⟩) n3).trans r1
    have t0 := (kV.cell (p := ⟨W2.heap.size, 0, none⟩) n2).trans p0'
    have t1 := (kV.cell (p := ⟨W2.heap.size, 1, none⟩) n2).trans p1'
    have y3 := (kV.cell (p := ⟨w.heap.size + 1, 3, none⟩) n1).trans e3
    have y4 := (kV.cell (p := ⟨w.heap.size + 1, 4, none⟩) n1).trans e4
    clear hV kV r0 r1 p0' p1' e3 e4
    go_quiet (fail)
    have kN : Below V.heap.size V (V.drewN nq) := below_drewN (Below.refl _ _) _
    have BN : Below w.heap.size w (V.drewN nq) := below_drewN BV _
    have sN : (V.drewN nq).heap.size = V.heap.size := by simp
    generalize World.drewN V nq = VN at *
    have f0 := (kN.cell (p := ⟨W4.heap.size, 0, none⟩) (by show W4.heap.size < _; omega)).trans a0
    have f1 := (kN.cell (p := ⟨W4.heap.size, 1, none⟩) (by show W4.heap.size < _; omega)).trans a1
    have g0 := (kN.cell (p := ⟨W3.heap.size, 0, none⟩) (by show W3.heap.size < _; omega)).trans s0
    have g1 := (kN.cell (p := ⟨W3.heap.size, 1, none⟩) (by show W3.heap.size < _; omega)).trans s1
    have k0 := (kN.cell (p := ⟨W2.heap.size, 0, none⟩) (by show W2.heap.size < _; omega)).trans t0
    have k1 := (kN.cell (p := ⟨W2.heap.size, 1, none⟩) (by show W2.heap.size < _; omega)).trans t1
    clear kN a0 a1 s0 s1 t0 t1 y3 y4 BV
    go_wp2_with fail
    refine (has_ok _ _ _ _ (by omega) (by omega)).mono ?_
    rintro e W5 ⟨rfl, B5⟩
    have hs5 := B5.size
    have BW5 : Below w.heap.size w W5 := BN.trans (B5.mono (by omega))
    have a0 := (B5.cell (p := ⟨W4.heap.size, 0, none⟩) (by show W4.heap.size < _; omega)).trans f0
    have a1 := (B5.cell (p := ⟨W4.heap.size, 1, none⟩) (by show W4.heap.size < _; omega)).trans f1
    have s0 := (B5.cell (p := ⟨W3.heap.size, 0, none⟩) (by show W3.heap.size < _; omega)).trans g0
    have s1 := (B5.cell (p := ⟨W3.heap.size, 1, none⟩) (by show W3.heap.size < _; omega)).trans g1
    have t0 := (B5.cell (p := ⟨W2.heap.size, 0, none⟩) (by show W2.heap.size < _; omega)).trans k0
    have t1 := (B5.cell (p := ⟨W2.heap.size, 1, none⟩) (by show W2.heap.size < _; omega)).trans k1
    clear B5 f0 f1 g0 g1 k0 k1
    go_wp2_with fail
    refine (awake_any _).mono ?_
    rintro e W6 ⟨rfl, B6⟩
    go_wp2_with fail
    go_ret
    exact ⟨rfl, BW5.trans (B6.mono (by omega))⟩
end Go.Proofs.Ytfjankkkeehioaa
