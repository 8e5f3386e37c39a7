/- Tide, part SN: which spans a voice meets; Agree. -/
import Derived.Test.YtblneiegekdnjaaSI
set_option linter.all false
namespace Go.Proofs.Ytblneiegekdnjaa
open Go.RowKit Go.Shelf

/-- A function value K, caps with a span as its argument returns a bool. -/
def ChkS (B : Nat) (w0 : World) (K : FuncId) (caps : Array Value) (gs : List (Int × Int)) (n : Nat) (f : Nat → Bool) : Prop :=
  (∀ args w, (callFunc K args).run Try.prog w = .ok (.enter K args) w) ∧
    ∀ j (h : j < gs.length), j < n → ∀ w, Below B w0 w → Calls Try.prog K (#[.agg #[.int .i64 gs[j].1, .int .i64 gs[j].2]] ++ caps) w fun e w' => e = .returned (.bool (f j)) ∧ Below w.heap.size w w'

set_option maxRecDepth 20000 in
set_option maxHeartbeats 1000000 in
theorem indexFuncS_any (B : Nat) (w0 : World) (b o cap n : Nat) (gs : List (Int × Int)) (f : Nat → Bool) (K : FuncId) (caps : Array Value) (w : World) (hn : n ≤ gs.length) (hn8 : gs.length ≤ 140737488355328) (hB : B ≤ w.heap.size) (hw0 : Below B w0 w) (hb : b < w.heap.size)
    (hat : ∀ i (h : i < gs.length), w.cell? ⟨b, o + i * 2, none⟩ = some (.int .i64 gs[i].1) ∧ w.cell? ⟨b, o + i * 2 + 1, none⟩ = some (.int .i64 gs[i].2)) (hk : ChkS B w0 K caps gs n f) :
    Calls Try.prog 111 #[.slice (some ⟨b, o, none⟩) n cap, .func (.func K) #[] caps] w
      fun e w' => e = .returned (.int .i64 (idxP f 0 n)) ∧ Below w.heap.size w w' := by
  have HK := hid hk; have HAt := hid hat; clear hk hat
  go_enter Try.func111, Try.ntmps111
  go_wp2_with fail
  go_loopw [5, 8] (fun _ i wr => ∃ k : Nat, k ≤ n ∧ i = .int .i64 k ∧ Hid (idxP f 0 n = idxP f k (n - k)) ∧ Below w.heap.size w wr) (fun _ i _ => n - (intOf i).toNat)
  case atStart => exact ⟨0, Nat.zero_le _, rfl, hid (by simp), Below.refl _ _⟩
  case round =>
    obtain ⟨k, hk, rfl, hf, hbw⟩ := hrel
    by_cases hlt : k < n
    · obtain ⟨hcall, hC⟩ := HK.out
      have HD := hid (hC k (by omega) hlt wr (hw0.trans (hbw.mono hB)));  clear hC
      have c0 := (hbw.cell (p := ⟨b, o + k * 2, none⟩) hb).trans (HAt.out k (by omega)).1
      have c1 := (hbw.cell (p := ⟨b, o + k * 2 + 1, none⟩) hb).trans (HAt.out k (by omega)).2
      have hyes := fun he => idxP_yes (f := f) hlt he
      have hno := fun he => idxP_no (f := f) hlt he
      have hkI : (k : Int) < (n : Int) := by omega
      generalize f k = y at *
      have HY := hid hyes; clear hyes
      have HN := hid hno; clear hno
      go_wp2_with fail
      refine (HD.out).mono ?_
      rintro e w' ⟨rfl, hb'⟩
      clear c0 c1
      cases y
      · go_wp2_with fail
        refine ⟨⟨k + 1, by omega, by go_num, hid (by rw [hf.out, HN.out (by simp)]), hbw.trans (hb'.mono hbw.size)⟩, ?_⟩
        simp [intOf]; omega
      · go_wp2_with fail
        go_ret
        exact ⟨by rw [hf.out, HY.out (by simp)]; rfl, hbw.trans (hb'.mono hbw.size)⟩
    · have hkl : k = n := by omega
      have HL := hid hkl; clear hkl
      go_wp2_with fail
      go_ret
      exact ⟨by rw [hf.out, HL.out, Nat.sub_self]; rfl, hbw⟩
set_option maxHeartbeats 1000000 in
theorem containsS_any (B : Nat) (w0 : World) (b o cap n : Nat) (gs : List (Int × Int)) (f : Nat → Bool) (K : FuncId) (caps : Array Value) (w : World) (hn : n ≤ gs.length) (hn8 : gs.length ≤ 140737488355328) (hB : B ≤ w.heap.size) (hw0 : Below B w0 w) (hb : b < w.heap.size)
    (hat : ∀ i (h : i < gs.length), w.cell? ⟨b, o + i * 2, none⟩ = some (.int .i64 gs[i].1) ∧ w.cell? ⟨b, o + i * 2 + 1, none⟩ = some (.int .i64 gs[i].2)) (hk : ChkS B w0 K caps gs n f) :
    Calls Try.prog 80 #[.slice (some ⟨b, o, none⟩) n cap, .func (.func K) #[] caps] w
      fun e w' => e = .returned (.bool (decide (0 ≤ idxP f 0 n))) ∧ Below w.heap.size w w' := by
  have HK := hid hk; have HAt := hid hat; clear hk hat
  have hr := idxP_range (f := f) (k := 0) (n := n)
  go_enter Try.func80, Try.ntmps80
  go_wp2_with fail
  refine (indexFuncS_any B w0 b o cap n gs f K caps _ hn hn8 hB hw0 hb HAt.out HK.out).mono ?_
  rintro e w' ⟨rfl, hb'⟩
  go_wp2_with fail
  go_ret
  exact ⟨by simp, hb'⟩

theorem callFunc_agree1 (args : Array Value) (w : World) : (callFunc 81 args).run Try.prog w = .ok (.enter 81 args) w := by simp [go_sem]
/-- Does a voice meet a span? -/
def meetB (lo hi : Int) (s : Int × Int) : Bool := decide (max lo s.1 ≤ min hi s.2)
set_option maxRecDepth 100000 in
set_option maxHeartbeats 2000000 in
theorem agree1_any (vb : Nat) (lo hi : Int) (s : Int × Int) (w : World) (h0 : w.cell? ⟨vb, 0, none⟩ = some (.int .i64 lo)) (h1 : w.cell? ⟨vb, 1, none⟩ = some (.int .i64 hi)) (hvb : vb < w.heap.size) :
    Calls Try.prog 81 #[.agg #[.int .i64 s.1, .int .i64 s.2], .pointer (some ⟨vb, 0, none⟩)] w
      fun e w' => e = .returned (.bool (meetB lo hi s)) ∧ Below w.heap.size w w' := by
  have n1 : vb ≠ w.heap.size := by omega
  go_enter Try.func81, Try.ntmps81
  go_wp2_with fail
  refine (common_any _ _ _ _ _).mono ?_
  rintro e W2 ⟨rfl, B2⟩
  have s2 := B2.size
  simp only [World.size_alloc] at s2
  have BX : Below w.heap.size w W2 := ((Below.refl _ _).alloc (Nat.le_refl _) _).trans (B2.mono (by simp))
  clear B2
  go_wp2_with fail
  refine (empty_any _ _ _).mono ?_
  rintro e W3 ⟨rfl, B3⟩
  go_wp2_with fail
  go_ret
  refine ⟨?_, BX.trans (B3.mono (by omega))⟩
  unfold meetB
  by_cases h : max lo s.1 ≤ min hi s.2
  · rw [decide_eq_true h, decide_eq_false (by omega)]; rfl
  · rw [decide_eq_false h, decide_eq_true (by omega)]; rfl
end Go.Proofs.Ytblneiegekdnjaa
