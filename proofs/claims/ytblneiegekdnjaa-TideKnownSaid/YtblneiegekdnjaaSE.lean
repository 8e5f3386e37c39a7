/- Tide, part SE: the order of ends: what the sort is handed. -/
import Derived.Test.YtblneiegekdnjaaSD
import Derived.Test.YtblneiegekdnjaaSL
import Derived.Deep.RegionHeld3
set_option linter.all false
namespace Go.Proofs.Ytblneiegekdnjaa
open Go.RowKit Go.Shelf Go.Lib Go.Sort

def cmpI (a b : Int) : Int := if a < b then -1 else if b < a then 1 else 0
theorem isNaN_any (a : Int) (w : World) : Calls Try.prog 125 #[.int .i64 a] w fun e w' => e = .returned (.bool false) ∧ w = w' := by
  go_enter Try.func125, Try.ntmps125
  go_wp2
  go_ret
  exact ⟨by simp, rfl⟩
theorem compare_any (a b : Int) (w : World) : Calls Try.prog 119 #[.int .i64 a, .int .i64 b] w fun e w' => e = .returned (.int .i64 (cmpI a b)) ∧ w = w' := by
  obtain ⟨r, hr⟩ : ∃ r, r = cmpI a b := ⟨_, rfl⟩
  rw [← hr]
  unfold cmpI at hr
  have HR := hid hr; clear hr
  by_cases h1 : a < b
  · have H1 := hid h1
    go_enter Try.func119, Try.ntmps119
    go_wp2_with (go_at_call 125; refine (isNaN_any _ _).mono ?_; rintro e w' ⟨rfl, rfl⟩)
    go_ret
    exact ⟨ret_i (by rw [HR.out, if_pos H1.out]), rfl⟩
  · by_cases h2 : b < a
    · have H1 := hid h1; have H2 := hid h2
      go_enter Try.func119, Try.ntmps119
      go_wp2_with (go_at_call 125; refine (isNaN_any _ _).mono ?_; rintro e w' ⟨rfl, rfl⟩)
      go_ret
      exact ⟨ret_i (by rw [HR.out, if_neg (by have := H1.out; omega), if_pos H2.out]), rfl⟩
    · have H1 := hid h1; have H2 := hid h2
      go_enter Try.func119, Try.ntmps119
      go_wp2_with (go_at_call 125; refine (isNaN_any _ _).mono ?_; rintro e w' ⟨rfl, rfl⟩)
      go_ret
      exact ⟨ret_i (by rw [HR.out, if_neg (by have := H1.out; omega), if_neg (by have := H2.out; omega)]), rfl⟩
theorem or_any (b : Nat) (c1 c2 : Int) (w : World) (h0 : w.cell? ⟨b, 0, none⟩ = some (.int .i64 c1)) (h1 : w.cell? ⟨b, 1, none⟩ = some (.int .i64 c2)) :
    Calls Try.prog 118 #[.slice (some ⟨b, 0, none⟩) 2 2] w fun e w' => e = .returned (.int .i64 (if c1 ≠ 0 then c1 else c2)) ∧ w = w' := by
  obtain ⟨r, hr⟩ : ∃ r, r = (if c1 ≠ 0 then c1 else c2) := ⟨_, rfl⟩
  rw [← hr]
  have HR := hid hr; clear hr
  have H0 := hid h0; have H1 := hid h1
  clear h0 h1
  go_enter Try.func118, Try.ntmps118
  go_wp2
  go_loop [5, 8] (fun _ i => ∃ k : Nat, k ≤ 2 ∧ i = .int .i64 k ∧ Hid ((1 ≤ k → c1 = 0) ∧ (2 ≤ k → c2 = 0))) (fun _ i => 2 - (intOf i).toNat)
  case atStart => exact ⟨0, by omega, rfl, hid ⟨by omega, by omega⟩⟩
  case round =>
    obtain ⟨k, hk, rfl, hz⟩ := hrel
    match k, hk with
    | 0, _ =>
      have c0 := H0.out
      by_cases hc : c1 = 0
      · have hc' : (c1 != 0) = false := by simp [hc]
        have HC := hid hc; clear hc
        go_wp2
        go_round
        case rel => exact ⟨1, by omega, by simp, hid ⟨fun _ => HC.out, by omega⟩⟩
        case measure => simp [intOf]
      · have hc' : (c1 != 0) = true := by simp [hc]
        have HC := hid hc; clear hc
        go_wp2
        go_ret
        exact ⟨ret_i (by rw [HR.out, if_pos HC.out]), rfl⟩
    | 1, _ =>
      have c0 := H1.out
      by_cases hc : c2 = 0
      · have hc' : (c2 != 0) = false := by simp [hc]
        have HC := hid hc; clear hc
        go_wp2
        go_round
        case rel => exact ⟨2, by omega, by simp, hid ⟨fun _ => hz.out.1 (by omega), fun _ => HC.out⟩⟩
        case measure => simp [intOf]
      · have hc' : (c2 != 0) = true := by simp [hc]
        have HC := hid hc; clear hc
        go_wp2
        go_ret
        exact ⟨ret_i (by rw [HR.out, hz.out.1 (by omega), if_neg (by simp)]), rfl⟩
    | 2, _ =>
      go_wp2
      go_ret
      exact ⟨ret_i (by rw [HR.out, hz.out.1 (by omega), hz.out.2 (by omega), if_neg (by simp)]), rfl⟩
def cfE (x y : Int × Int) : Int := if cmpI x.1 y.1 ≠ 0 then cmpI x.1 y.1 else cmpI x.2 y.2
theorem closure_any (x y : Int × Int) (W : World) : Calls Try.prog 117 #[.agg #[.int .i64 x.1, .int .i64 x.2], .agg #[.int .i64 y.1, .int .i64 y.2]] W fun e w' => e = .returned (.int .i64 (cfE x y)) ∧ ∃ q os', w' = grow (W.drewN q) os' := by
  obtain ⟨r, hr⟩ : ∃ r, r = cfE x y := ⟨_, rfl⟩
  rw [← hr]
  unfold cfE at hr
  obtain ⟨c1, h1⟩ : ∃ c, cmpI x.1 y.1 = c := ⟨_, rfl⟩
  obtain ⟨c2, h2⟩ : ∃ c, cmpI x.2 y.2 = c := ⟨_, rfl⟩
  have k1 := fun w => compare_any x.1 y.1 w
  have k2 := fun w => compare_any x.2 y.2 w
  rw [h1] at k1 hr
  rw [h2] at k2 hr
  have ko := fun b w h0 h1 => or_any b c1 c2 w h0 h1
  rw [← hr] at ko
  have KO := hid ko
  have K1 := hid k1; have K2 := hid k2
  clear hr k1 k2 h1 h2 ko
  obtain ⟨x1, x2⟩ := x
  obtain ⟨y1, y2⟩ := y
  simp only at K1 K2 ⊢
  go_enter Try.func117, Try.ntmps117
  go_wp2_with fail
  generalize hW1 : World.alloc (World.alloc W _) _ = W1
  have b0 : W1.cell? ⟨W.heap.size, 0, none⟩ = some (.int .i64 x1) := by rw [← hW1]; simp [go_sem]
  have b1 : W1.cell? ⟨W.heap.size, 1, none⟩ = some (.int .i64 x2) := by rw [← hW1]; simp [go_sem]
  have b2 : W1.cell? ⟨W.heap.size + 1, 0, none⟩ = some (.int .i64 y1) := by rw [← hW1]; simp [go_sem]
  have b3 : W1.cell? ⟨W.heap.size + 1, 1, none⟩ = some (.int .i64 y2) := by rw [← hW1]; simp [go_sem]
  go_region_held3 (fun w' => w'.cell? ⟨W.heap.size, 0, none⟩ = some (.int .i64 x1) ∧ w'.cell? ⟨W.heap.size, 1, none⟩ = some (.int .i64 x2) ∧ w'.cell? ⟨W.heap.size + 1, 0, none⟩ = some (.int .i64 y1) ∧ w'.cell? ⟨W.heap.size + 1, 1, none⟩ = some (.int .i64 y2))
    (go_keep)
    (first
      | (go_at_call_of 119 (Value.int .i64 x1); refine (K1.out _).mono ?_; rintro e w' ⟨rfl, rfl⟩)
      | (go_at_call_of 119 (Value.int .i64 x2); refine (K2.out _).mono ?_; rintro e w' ⟨rfl, rfl⟩)
      | (go_at_call 118; refine (KO.out _ _ (by simp [go_sem]) (by simp [go_sem])).mono ?_; rintro e w' ⟨rfl, rfl⟩))
  all_goals
    go_wp2_with fail
    go_ret
    exact ⟨rfl, 1, _, by rw [← hW1, alloc_eq_grow, alloc_eq_grow, alloc_eq_grow, grow_grow, grow_grow]; rfl⟩
def encE (x : Int × Int) : List Value := [.int .i64 x.1, .int .i64 x.2]
theorem cmpLays (blk off size : Nat) (w : World) : CmpLays Try.prog 117 #[] encE 2 cfE blk off size w :=
  fun _ _ _ _ x y => closure_any x y _
theorem ltOf_cfE (x y : Int × Int) : ltOf cfE x y = decide (x.1 < y.1 ∨ x.1 = y.1 ∧ x.2 < y.2) := by
  unfold ltOf cfE cmpI
  by_cases h1 : x.1 < y.1
  · simp [h1]
  · by_cases h2 : y.1 < x.1
    · have : ¬ x.1 = y.1 := by omega
      simp [h1, h2, this]
    · have : x.1 = y.1 := by omega
      by_cases h3 : x.2 < y.2
      · simp [this, h3]
      · by_cases h4 : y.2 < x.2
        · simp [this, h3, h4]
        · simp [this, h3, h4]
theorem swoE : SWO (ltOf cfE) where
  irrefl x := by rw [ltOf_cfE]; simp
  trans x y z h1 h2 := by rw [ltOf_cfE] at *; simp at *; omega
  ntrans x y z h1 h2 := by rw [ltOf_cfE] at *; simp at *; omega

/-- The sort puts the ends in order. -/
theorem sortEnds (blk off cap : Nat) (d : Array (Int × Int)) (w : World) (hH : HoldsK encE 2 w blk off d) (hblk : blk < w.heap.size) (hsz : d.size < 4611686018427387904) :
    Calls Try.prog 116 #[.slice (some ⟨blk, off, none⟩) d.size cap, .func (.func 117) #[] #[]] w fun e w' =>
      e = .returned (.tuple #[]) ∧ ∃ d' n os, PermIn 0 d.size d d' ∧ SortedIn (ltOf cfE) 0 d.size d' ∧ w' = sortWorldK encE 2 w blk off n d' os := by
  have hcon := AnyQ.slices_SortFunc Try.sortEnd 2 Try.isAgg150 Try.sizeOf150 encE (fun _ => rfl) (fun x v hv => by simp [encE] at hv; rcases hv with rfl | rfl <;> rfl) cfE swoE 117 #[] blk off cap d w (enters_of Try.func117 (by kernel_rfl) rfl) (cmpLays blk off d.size w) hH hblk hsz
  exact hcon
end Go.Proofs.Ytblneiegekdnjaa
