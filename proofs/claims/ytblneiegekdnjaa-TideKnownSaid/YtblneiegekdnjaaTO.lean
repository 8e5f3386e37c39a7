/- Tide, part O: what each statement calls at its end (Awake). -/
import Derived.Test.YtblneiegekdnjaaTN
set_option linter.all false
namespace Go.Proofs.Ytblneiegekdnjaa
open Go.RowKit

theorem each_made (n : Nat) (K : FuncId) (caps : Array Value) (w : World) :
    Calls Try.prog 52 #[.int .i64 n, .func (.func K) #[] caps] w fun e w' => ∃ caps, e = .returned (.func (.func 94) #[] caps) ∧ Below w.heap.size w w' := by
  go_enter Try.func52, Try.ntmps52
  go_wp2
  go_ret
  exact ⟨_, rfl, (((Below.refl _ _).alloc (Nat.le_refl _) _).alloc (by simp) _)⟩

set_option maxRecDepth 20000 in
set_option maxHeartbeats 400000 in
/-- first, where the first check finds something. -/
theorem first_head (B : Nat) (w0 : World) (p : Int × Int) (b o n cap : Nat) (K : FuncId) (caps : Array Value) (w : World) (hn : 0 < n) (_hn2 : n ≤ 100) (hw0 : Below B w0 w)
    (hc : w.cell? ⟨b, o, none⟩ = some (.func (.func K) #[] caps)) (hk : Chk B w0 K caps p) (hp : p.2 ≠ 0) :
    Calls Try.prog 49 #[.slice (some ⟨b, o, none⟩) n cap] w fun e w' => e = .returned (.tuple #[.int .i64 1, .int .i64 p.1, .int .i64 p.2]) ∧ Below w.heap.size w w' := by
  obtain ⟨hcall, hC⟩ := hk
  have HD := hid (hC w hw0); clear hC
  have hp' : (p.2 != 0) = true := by simpa using hp
  have HP := hid hp; clear hp
  go_enter Try.func49, Try.ntmps49
  go_wp2_with fail
  go_loopw [5,6,7,8,11] (fun a b c d i wr => i = .int .i64 0 ∧ wr = w) (fun _ _ _ _ _ _ => 0)
  case atStart => exact ⟨rfl, rfl⟩
  case round =>
    obtain ⟨rfl, rfl⟩ := hrel
    go_wp2_with fail
    refine (HD.out).mono ?_
    rintro e w' ⟨rfl, hb'⟩
    go_wp2_with fail
    refine bodyPost_ret (v := .tuple #[.int .i64 1, .int .i64 p.1, .int .i64 p.2]) (by simp [results, Try.results49, go_sem]) rfl ⟨rfl, hb'⟩

theorem first_head4 {K0 K1 K2 K3 : FuncId} {c0 c1 c2 c3 : Array Value} {p : Int × Int} {w0 w1 w2 w3 : World} (T : TypeId) (h0 : Chk w0.heap.size w0 K0 c0 p) (hp : p.2 ≠ 0) (b0 : Below w0.heap.size w0 w1) (b1 : Below w1.heap.size w1 w2) (b2 : Below w2.heap.size w2 w3) :
    Calls Try.prog 49 #[.slice (some ⟨w3.heap.size, 0, none⟩) 4 4] (w3.alloc (.cells #[.func (.func K0) #[] c0, .func (.func K1) #[] c1, .func (.func K2) #[] c2, .func (.func K3) #[] c3] T))
      fun e w' => e = .returned (.tuple #[.int .i64 1, .int .i64 p.1, .int .i64 p.2]) ∧ Below (w3.alloc (.cells #[.func (.func K0) #[] c0, .func (.func K1) #[] c1, .func (.func K2) #[] c2, .func (.func K3) #[] c3] T)).heap.size (w3.alloc (.cells #[.func (.func K0) #[] c0, .func (.func K1) #[] c1, .func (.func K2) #[] c2, .func (.func K3) #[] c3] T)) w' := by
  have k0 : Chk w3.heap.size (w3.alloc (.cells #[.func (.func K0) #[] c0, .func (.func K1) #[] c1, .func (.func K2) #[] c2, .func (.func K3) #[] c3] T)) K0 c0 p := (((h0.at b0).at b1).at b2).later ((Below.refl _ _).alloc (Nat.le_refl _) _)
  exact first_head w3.heap.size _ p _ 0 4 4 K0 c0 _ (by omega) (by omega) (Below.refl _ _) (by simp [go_sem]) k0 hp

set_option maxRecDepth 100000 in
set_option maxHeartbeats 1000000 in
theorem askNine (b : Nat) (w : World) :
    Calls Try.prog 74 #[.slice (some ⟨b, 0, none⟩) 9 9, .int .i64 0, .int .i64 0] w fun e w' => e = .returned (.int .i64 3) ∧ Below w.heap.size w w' := by
  have hT : inB 0 0 200000 = true := rfl
  go_enter Try.func74, Try.ntmps74
  go_wp2_with fail
  generalize hW1 : World.alloc w _ = W1
  have B1 : Below w.heap.size w W1 := by rw [← hW1]; exact (Below.refl _ _).alloc (Nat.le_refl _) _
  have S1 : w.heap.size < W1.heap.size := by rw [← hW1]; simp
  have t0 : W1.cell? ⟨w.heap.size, 0, none⟩ = some (.slice (some ⟨b, 0, none⟩) 9 9) := by rw [← hW1]; simp [go_sem]
  clear hW1
  have hB1 : w.heap.size + 1 ≤ W1.heap.size := by omega
  go_region_held3 (fun w' => Below (w.heap.size + 1) W1 w' ∧ w'.cell? ⟨w.heap.size, 0, none⟩ = some (.slice (some ⟨b, 0, none⟩) 9 9))
    (first | assumption | exact ⟨(Below.refl _ _).drew, by simpa using t0⟩ | exact keepP (by assumption) (by assumption) (Nat.lt_succ_self _) hB1 | exact keepP ((Below.refl _ _).alloc (Nat.le_refl _) _) (by assumption) (Nat.lt_succ_self _) hB1)
    (first
      | (go_at_call 59; refine (isTick_val _ _ _ hT).mono ?_; rintro e w' ⟨rfl, rfl⟩)
      | (go_at_call 50; refine (must_any _ _ _ _).mono ?_; rintro e w' ⟨caps, rfl, hb, hchk⟩)
      | (go_at_call 52; refine (each_made 9 _ _ _).mono ?_; rintro e w' ⟨caps, rfl, hb⟩)
      | (go_at_call 49; apply Calls.mono; apply first_head4 (p := mustP false 0 3); assumption; exact (by decide); assumption; assumption; assumption; rintro e w' ⟨rfl, hb⟩))
  all_goals
    have hfin := keepPB (by assumption : Below (w.heap.size + 1) W1 _ ∧ World.cell? _ ⟨w.heap.size, 0, none⟩ = some (.slice (some ⟨b, 0, none⟩) 9 9))
    generalize hm : mustP false 0 3 = m at *
    have HM := hid hm; clear hm
    go_wp2_with fail
    go_ret
    exact ⟨by rw [← HM.out]; rfl, B1.trans (hfin.mono (by omega))⟩
end Go.Proofs.Ytblneiegekdnjaa
