/- Tide, part SH: what Sound and Agree are asked: names that come twice. -/
import Derived.Test.YtblneiegekdnjaaSG
import Derived.BigQuiet
set_option linter.all false
namespace Go.Proofs.Ytblneiegekdnjaa
open Go.RowKit Go.Shelf

/-- The first of n places at which something holds, or -1. -/
def idxP (f : Nat → Bool) : Nat → Nat → Int
  | _, 0 => -1
  | k, n + 1 => if f k = true then (k : Int) else idxP f (k + 1) n
theorem idxP_yes {f : Nat → Bool} {k n : Nat} (h : k < n) (he : f k = true) : idxP f k (n - k) = (k : Int) := by
  obtain ⟨m, hm⟩ : ∃ m, n - k = m + 1 := ⟨n - k - 1, by omega⟩
  rw [hm]; simp [idxP, he]
theorem idxP_no {f : Nat → Bool} {k n : Nat} (h : k < n) (he : f k = false) : idxP f k (n - k) = idxP f (k + 1) (n - (k + 1)) := by
  obtain ⟨m, hm⟩ : ∃ m, n - k = m + 1 := ⟨n - k - 1, by omega⟩
  have hm' : n - (k + 1) = m := by omega
  rw [hm, hm']; simp [idxP, he]
theorem idxP_some {f : Nat → Bool} {k n : Nat} : 0 ≤ idxP f k n ↔ ∃ j, k ≤ j ∧ j < k + n ∧ f j = true := by
  induction n generalizing k with
  | zero => simp [idxP]; intro j h1 h2; omega
  | succ n ih =>
    simp only [idxP]
    by_cases h : f k = true
    · rw [if_pos h]; exact ⟨fun _ => ⟨k, Nat.le_refl _, by omega, h⟩, fun _ => by omega⟩
    · rw [if_neg h, ih]
      constructor
      · rintro ⟨j, h1, h2, h3⟩; exact ⟨j, by omega, by omega, h3⟩
      · rintro ⟨j, h1, h2, h3⟩
        by_cases hj : j = k
        · exact absurd (hj ▸ h3) h
        · exact ⟨j, by omega, by omega, h3⟩
theorem idxP_range {f : Nat → Bool} {k n : Nat} : -1 ≤ idxP f k n ∧ idxP f k n < (k + n : Nat) := by
  induction n generalizing k with
  | zero => simp [idxP]; omega
  | succ n ih =>
    simp only [idxP]
    split
    · omega
    · have := ih (k := k + 1); omega

/-- A function value K, caps with a gauge as its argument returns a bool. -/
def ChkG (B : Nat) (w0 : World) (K : FuncId) (caps : Array Value) (gs : List Gau) (ps : Nat → GPos) (n : Nat) (f : Nat → Bool) : Prop :=
  (∀ args w, (callFunc K args).run Try.prog w = .ok (.enter K args) w) ∧
    ∀ j (h : j < gs.length), j < n → ∀ w, Below B w0 w → Calls Try.prog K (#[.agg #[.string gs[j].name, .int .i64 gs[j].err, .int .i64 gs[j].rate, .slice (ps j).da gs[j].ds.length (ps j).dc, .slice (ps j).ra gs[j].rs.length (ps j).rc]] ++ caps) w fun e w' => e = .returned (.bool (f j)) ∧ Below w.heap.size w w'

set_option maxRecDepth 20000 in
set_option maxHeartbeats 1000000 in
theorem indexFuncG_any (B : Nat) (w0 : World) (b o cap n : Nat) (gs : List Gau) (ps : Nat → GPos) (f : Nat → Bool) (K : FuncId) (caps : Array Value) (w : World) (hn : n ≤ gs.length) (hn8 : gs.length ≤ 140737488355328) (hB : B ≤ w.heap.size) (hw0 : Below B w0 w) (hb : b < w.heap.size)
    (hat : ∀ i (h : i < gs.length), GauAt w b (o + i * 5) gs[i] (ps i)) (hk : ChkG B w0 K caps gs ps n f) :
    Calls Try.prog 114 #[.slice (some ⟨b, o, none⟩) n cap, .func (.func K) #[] caps] w
      fun e w' => e = .returned (.int .i64 (idxP f 0 n)) ∧ Below w.heap.size w w' := by
  have HK := hid hk; have HAt := hid hat; clear hk hat
  go_enter Try.func114, Try.ntmps114
  go_wp2_with fail
  go_loopw [5, 8] (fun _ i wr => ∃ k : Nat, k ≤ n ∧ i = .int .i64 k ∧ Hid (idxP f 0 n = idxP f k (n - k)) ∧ Below w.heap.size w wr) (fun _ i _ => n - (intOf i).toNat)
  case atStart => exact ⟨0, Nat.zero_le _, rfl, hid (by simp), Below.refl _ _⟩
  case round =>
    obtain ⟨k, hk, rfl, hf, hbw⟩ := hrel
    by_cases hlt : k < n
    · obtain ⟨hcall, hC⟩ := HK.out
      have HD := hid (hC k (by omega) hlt wr (hw0.trans (hbw.mono hB)));  clear hC
      obtain ⟨c0, c1, c2, c3, c4⟩ := (HAt.out k (by omega)).later hbw hb
      have hyes := fun he => idxP_yes (f := f) hlt he
      have hno := fun he => idxP_no (f := f) hlt he
      have hkI : (k : Int) < (n : Int) := by omega
      generalize f k = y at *
      have HY := hid hyes; clear hyes
      have HN := hid hno; clear hno
      go_wp2_with fail
      refine (HD.out).mono ?_
      rintro e w' ⟨rfl, hb'⟩
      clear c0 c1 c2 c3 c4
      cases y
      · go_wp2_with fail
        refine ⟨⟨k + 1, by omega, by go_num, hid (by rw [hf.out, HN.out (by simp)]), hbw.trans (hb'.mono hbw.size)⟩, ?_⟩
        simp [intOf]; omega
      · go_wp2_with fail
        go_ret
        exact ⟨by rw [hf.out, HY.out (by simp)]; rfl, hbw.trans (hb'.mono hbw.size)⟩
    · have hkl : k = n := by omega
      have HL := hid hkl; clear hkl
      go_wp2_with fail
      go_ret
      exact ⟨by rw [hf.out, HL.out, Nat.sub_self]; rfl, hbw⟩
set_option maxHeartbeats 1000000 in
theorem containsG_any (B : Nat) (w0 : World) (b o cap n : Nat) (gs : List Gau) (ps : Nat → GPos) (f : Nat → Bool) (K : FuncId) (caps : Array Value) (w : World) (hn : n ≤ gs.length) (hn8 : gs.length ≤ 140737488355328) (hB : B ≤ w.heap.size) (hw0 : Below B w0 w) (hb : b < w.heap.size)
    (hat : ∀ i (h : i < gs.length), GauAt w b (o + i * 5) gs[i] (ps i)) (hk : ChkG B w0 K caps gs ps n f) :
    Calls Try.prog 106 #[.slice (some ⟨b, o, none⟩) n cap, .func (.func K) #[] caps] w
      fun e w' => e = .returned (.bool (decide (0 ≤ idxP f 0 n))) ∧ Below w.heap.size w w' := by
  have HK := hid hk; have HAt := hid hat; clear hk hat
  have hr := idxP_range (f := f) (k := 0) (n := n)
  go_enter Try.func106, Try.ntmps106
  go_wp2_with fail
  refine (indexFuncG_any B w0 b o cap n gs ps f K caps _ hn hn8 hB hw0 hb HAt.out HK.out).mono ?_
  rintro e w' ⟨rfl, hb'⟩
  go_wp2_with fail
  go_ret
  exact ⟨by simp, hb'⟩
theorem callFunc_ask21 (args : Array Value) (w : World) : (callFunc 107 args).run Try.prog w = .ok (.enter 107 args) w := by simp [go_sem]
theorem callFunc_ask1 (args : Array Value) (w : World) : (callFunc 104 args).run Try.prog w = .ok (.enter 104 args) w := by simp [go_sem]
theorem callFunc_ask2 (args : Array Value) (w : World) : (callFunc 105 args).run Try.prog w = .ok (.enter 105 args) w := by simp [go_sem]
set_option maxRecDepth 100000 in
set_option maxHeartbeats 2000000 in
theorem ask21_any (lb ib b o cap i : Nat) (gs : List Gau) (hi : i < gs.length) (ps : Nat → GPos) (g : Gau) (p : GPos) (w : World) (h1 : w.cell? ⟨lb, 0, none⟩ = some (.slice (some ⟨b, o, none⟩) gs.length cap)) (h2 : w.cell? ⟨ib, 0, none⟩ = some (.int .i64 i))
    (hlb : lb < w.heap.size) (hib : ib < w.heap.size) (hb : b < w.heap.size) (hat : GauAt w b (o + i * 5) gs[i] (ps i)) :
    Calls Try.prog 107 #[.agg #[.string g.name, .int .i64 g.err, .int .i64 g.rate, .slice p.da g.ds.length p.dc, .slice p.ra g.rs.length p.rc], .pointer (some ⟨lb, 0, none⟩), .pointer (some ⟨ib, 0, none⟩)] w
      fun e w' => e = .returned (.bool (g.name.toList == gs[i].name.toList)) ∧ Below w.heap.size w w' := by
  have hc0 := hat.c0
  have hiI : (i : Int) < (gs.length : Int) := by omega
  have n1 : lb ≠ w.heap.size := by omega
  have n2 : ib ≠ w.heap.size := by omega
  have n3 : b ≠ w.heap.size := by omega
  clear hat
  go_enter Try.func107, Try.ntmps107
  go_wp2_with fail
  go_quiet (fail)
  go_wp2_with fail
  go_ret
  exact ⟨rfl, below_drewN ((Below.refl _ _).alloc (Nat.le_refl _) _) _⟩
def twB (gs : List Gau) (i j : Nat) : Bool := (gs.getD j default).name.toList == (gs.getD i default).name.toList
/-- Is the name of the i-th gauge one of those before it? -/
def twE (gs : List Gau) (i : Nat) : Int := if 0 ≤ idxP (twB gs i) 0 i then 5 else 0
set_option maxRecDepth 100000 in
set_option maxHeartbeats 2000000 in
theorem ask2_any (B lb b o cap i : Nat) (gs : List Gau) (hi : i < gs.length) (hn8 : gs.length ≤ 140737488355328) (ps : Nat → GPos) (w : World) (h1 : w.cell? ⟨lb, 0, none⟩ = some (.slice (some ⟨b, o, none⟩) gs.length cap))
    (hlb : lb < B) (hb : b < B) (hB : B ≤ w.heap.size) (hat : ∀ i (h : i < gs.length), GauAt w b (o + i * 5) gs[i] (ps i)) (hcap : gs.length ≤ cap) :
    Calls Try.prog 105 #[.int .i64 i, .pointer (some ⟨lb, 0, none⟩)] w fun e w' => e = .returned (.int .i64 (twE gs i)) ∧ Below w.heap.size w w' := by
  have HAt := hid hat; clear hat
  have HE := hid (show twE gs i = if 0 ≤ idxP (twB gs i) 0 i then 5 else 0 from rfl)
  have n1 : lb < w.heap.size := by omega
  have hcc : i ≤ cap := by omega
  have hic : (i : Int) ≤ (cap : Int) := by omega
  generalize twE gs i = te at *
  go_enter Try.func105, Try.ntmps105
  go_wp2_with fail
  have hX : Below w.heap.size w (w.alloc (.cells #[.int .i64 i] 3)) := (Below.refl _ _).alloc (Nat.le_refl _) _
  obtain ⟨W1, hW1⟩ : ∃ W1, W1 = w.alloc (.cells #[.int .i64 i] 3) := ⟨_, rfl⟩
  rw [← hW1] at hX
  have s1 : W1.heap.size = w.heap.size + 1 := by rw [hW1]; simp
  have i1 : W1.cell? ⟨w.heap.size, 0, none⟩ = some (.int .i64 i) := by rw [hW1]; simp [go_sem]
  have l1 : W1.cell? ⟨lb, 0, none⟩ = some (.slice (some ⟨b, o, none⟩) gs.length cap) := (hX.cell (p := ⟨lb, 0, none⟩) n1).trans h1
  rw [← hW1]
  clear hW1 h1
  refine (containsG_any W1.heap.size W1 b o cap i gs ps (twB gs i) _ _ _ (by omega) hn8 (Nat.le_refl _) (Below.refl _ _) (by omega) (fun j h => (HAt.out j h).later hX (by omega)) ⟨callFunc_ask21, fun j h hji W hW => ?_⟩).mono ?_
  · have := ask21_any lb w.heap.size b o cap i gs hi ps gs[j] (ps j) W ((hW.cell (p := ⟨lb, 0, none⟩) (by show lb < _; omega)).trans l1) ((hW.cell (p := ⟨w.heap.size, 0, none⟩) (by show w.heap.size < _; omega)).trans i1) (by have := hW.size; omega) (by have := hW.size; omega) (by have := hW.size; omega) (((HAt.out i hi).later hX (by omega)).later hW (by omega))
    refine this.mono ?_
    rintro e w' ⟨rfl, hb'⟩
    exact ⟨by unfold twB; rw [show gs.getD j default = gs[j] by simp [List.getD, h], show gs.getD i default = gs[i] by simp [List.getD, hi]], hb'⟩
  rintro e w' ⟨rfl, hb'⟩
  have hfin := hX.trans (hb'.mono (by omega))
  by_cases hz : 0 ≤ idxP (twB gs i) 0 i
  · have hz' : decide (0 ≤ idxP (twB gs i) 0 i) = true := by simp [hz]
    have he := HE.out
    rw [if_pos hz] at he
    have HE' := hid he
    clear hz he HE
    rw [hz']
    clear hz'
    go_wp2_with fail
    go_ret
    exact ⟨by rw [HE'.out]; rfl, hfin⟩
  · have hz' : decide (0 ≤ idxP (twB gs i) 0 i) = false := by simp [hz]
    have he := HE.out
    rw [if_neg hz] at he
    have HE' := hid he
    clear hz he HE
    rw [hz']
    clear hz'
    go_wp2_with fail
    go_ret
    exact ⟨by rw [HE'.out]; rfl, hfin⟩
/-- The error of the i-th gauge. -/
def ggE (gs : List Gau) (i : Nat) : Int := (gaugeP (gs.getD i default)).2.2
set_option maxRecDepth 100000 in
set_option maxHeartbeats 2000000 in
theorem ask1_any (lb : Nat) (a : Option Addr) (cap i : Nat) (gs : List Gau) (hi : i < gs.length) (w : World) (h1 : w.cell? ⟨lb, 0, none⟩ = some (.slice a gs.length cap)) (hat : GausAt w a gs) :
    Calls Try.prog 104 #[.int .i64 i, .pointer (some ⟨lb, 0, none⟩)] w fun e w' => e = .returned (.int .i64 (ggE gs i)) ∧ Below w.heap.size w w' := by
  rcases hat with h0 | ⟨b, o, ps, rfl, hs, hc⟩
  · rw [h0] at hi; simp at hi
  obtain ⟨⟨c0, c1, c2, c3, c4⟩, hok⟩ := hc i hi
  have HOk := hid hok
  have HE := hid (show ggE gs i = (gaugeP gs[i]).2.2 by unfold ggE; rw [show gs.getD i default = gs[i] by simp [List.getD, hi]])
  have hil : (i : Int) < (gs.length : Int) := by omega
  generalize ggE gs i = ge at *
  clear hc hok
  generalize gs[i] = g at *
  generalize ps i = p at *
  go_enter Try.func104, Try.ntmps104
  go_wp2_with fail
  refine (checkGauge_any g p _ HOk.out).mono ?_
  rintro e w' ⟨rfl, hb'⟩
  generalize gaugeP g = q at *
  go_wp2_with fail
  go_ret
  exact ⟨by rw [HE.out]; rfl, hb'⟩
/-- The first error of what Sound and Agree are asked. -/
def askE (gs : List Gau) (t now : Int) : Int :=
  (firstAt 0 [mustP (decide ((gs.length : Int) ≤ 8)) 0 3, eachP (ggE gs) 0 gs.length, eachP (twE gs) 0 gs.length, mustP (inB t 0 200000 && inB now 0 200000) 0 7]).2.2
theorem GausAt.cap {w : World} {a : Option Addr} {gs : List Gau} (h : GausAt w a gs) (h0 : gs ≠ []) : ∃ (b o : Nat) (ps : Nat → GPos), a = some ⟨b, o, none⟩ ∧ b < w.heap.size ∧ ∀ i (h : i < gs.length), GauAt w b (o + i * 5) gs[i] (ps i) := by
  rcases h with h | ⟨b, o, ps, ha, hs, hc⟩
  · exact absurd h h0
  · exact ⟨b, o, ps, ha, hs, fun i hi => (hc i hi).1⟩
set_option maxRecDepth 100000 in
set_option maxHeartbeats 8000000 in
theorem askError_any (a : Option Addr) (cap : Nat) (gs : List Gau) (t now : Int) (w : World) (hcap : gs.length ≤ cap) (hlen : gs.length ≤ 140737488355328) (hgs : GausAt w a gs) :
    Calls Try.prog 74 #[.slice a gs.length cap, .int .i64 t, .int .i64 now] w fun e w' => e = .returned (.int .i64 (askE gs t now)) ∧ Below w.heap.size w w' := by
  have HGs := hid hgs; clear hgs
  have HE := hid (show askE gs t now = (firstAt 0 [mustP (decide ((gs.length : Int) ≤ 8)) 0 3, eachP (ggE gs) 0 gs.length, eachP (twE gs) 0 gs.length, mustP (inB t 0 200000 && inB now 0 200000) 0 7]).2.2 from rfl)
  generalize askE gs t now = ae at *
  go_enter Try.func74, Try.ntmps74
  go_wp2_with fail
  generalize hW1 : World.alloc w _ = W1
  have B1 : Below w.heap.size w W1 := by rw [← hW1]; exact (Below.refl _ _).alloc (Nat.le_refl _) _
  have S1 : w.heap.size < W1.heap.size := by rw [← hW1]; simp
  have t0 : W1.cell? ⟨w.heap.size, 0, none⟩ = some (.slice a gs.length cap) := by rw [← hW1]; simp [go_sem]
  clear hW1
  have hB1 : w.heap.size + 1 ≤ W1.heap.size := by omega
  have hG1 := HGs.out.later B1 (Nat.le_refl _)
  have hI1 : ChkI (w.heap.size + 1) W1 104 #[.pointer (some ⟨w.heap.size, 0, none⟩)] gs.length (ggE gs) :=
    ⟨callFunc_ask1, fun i hi W hW => ask1_any _ a cap i gs hi W ((hW.cell (p := ⟨w.heap.size, 0, none⟩) (by simp)).trans t0) (HGs.out.later (B1.trans (hW.mono (by omega))) (Nat.le_refl _))⟩
  have hI2 : ChkI (w.heap.size + 1) W1 105 #[.pointer (some ⟨w.heap.size, 0, none⟩)] gs.length (twE gs) :=
    ⟨callFunc_ask2, fun i hi W hW => by
      obtain ⟨b, o, ps, rfl, hs, hat⟩ := GausAt.cap HGs.out (by intro e; rw [e] at hi; simp at hi)
      have hWs := hW.size
      exact ask2_any (w.heap.size + 1) w.heap.size b o cap i gs hi hlen ps W ((hW.cell (p := ⟨w.heap.size, 0, none⟩) (by simp)).trans t0) (Nat.lt_succ_self _) (by omega) (by omega) (fun j h => ((hat j h).later B1 hs).later hW (by omega)) hcap⟩
  have HI1 := hid hI1; have HI2 := hid hI2
  clear hG1 hI1 hI2
  cases hT : inB t 0 200000
  · skip
    refine wp_region_noPanic ?_
    refine wp_region_held_drew (S := (fun w' => Below (w.heap.size + 1) W1 w' ∧ w'.cell? ⟨w.heap.size, 0, none⟩ = some (.slice a gs.length cap))) (by kernel_rfl) ?_ (fun hHeld => ?_)
    · exact ⟨(Below.refl _ _).drew, by simpa using t0⟩
    refine wpAnyH_take (i := 0) (oi := { dst := _, op := _, type := _, pos := _, after := _, guard := _ }) (v := ?_) rfl (by kernel_rfl) (by kernel_rfl) (by kernel_rfl) (fun _ _ _ h => h) (Or.inl ⟨by rfl, ?_⟩) (by assumption) ?_
    rotate_left
    · intro wS hSw; (try dsimp only at hSw); go_simp; try (with_reducible rfl)
    try simp only [Act.put, List.setIfInBounds_toArray, List.set_cons_zero, List.set_cons_succ]
    refine wpAnyH_take (i := 1) (oi := { dst := _, op := _, type := _, pos := _, after := _, guard := _ }) (v := ?_) rfl (by kernel_rfl) (by kernel_rfl) (by kernel_rfl) (fun _ _ _ h => h) (Or.inl ⟨by rfl, ?_⟩) (by assumption) ?_
    rotate_left
    · intro wS hSw; (try dsimp only at hSw); go_simp; try (with_reducible rfl)
    try simp only [Act.put, List.setIfInBounds_toArray, List.set_cons_zero, List.set_cons_succ]
    refine wpAnyH_take (i := 2) (oi := { dst := _, op := _, type := _, pos := _, after := _, guard := _ }) (v := ?_) rfl (by kernel_rfl) (by kernel_rfl) (by kernel_rfl) (fun _ _ _ h => h) (Or.inl ⟨by rfl, ?_⟩) (by assumption) ?_
    rotate_left
    · intro wS hSw; (try dsimp only at hSw); go_simp; try (with_reducible rfl)
    try simp only [Act.put, List.setIfInBounds_toArray, List.set_cons_zero, List.set_cons_succ]
    refine wpAnyH_take (i := 4) (oi := { dst := _, op := _, type := _, pos := _, after := _, guard := _ }) (v := ?_) rfl (by kernel_rfl) (by kernel_rfl) (by kernel_rfl) (fun _ _ _ h => h) (Or.inl ⟨by rfl, ?_⟩) (by assumption) ?_
    rotate_left
    · intro wS hSw; (try dsimp only at hSw); go_simp; try (with_reducible rfl)
    try simp only [Act.put, List.setIfInBounds_toArray, List.set_cons_zero, List.set_cons_succ]
    refine wpAnyH_take (i := 5) (oi := { dst := _, op := _, type := _, pos := _, after := _, guard := _ }) (v := ?_) rfl (by kernel_rfl) (by kernel_rfl) (by kernel_rfl) (fun _ _ _ h => h) (Or.inl ⟨by rfl, ?_⟩) (by assumption) ?_
    rotate_left
    · intro wS hSw; (try dsimp only at hSw); go_simp; try (with_reducible rfl)
    try simp only [Act.put, List.setIfInBounds_toArray, List.set_cons_zero, List.set_cons_succ]
    refine wpAnyH_take (i := 6) (oi := { dst := _, op := _, type := _, pos := _, after := _, guard := _ }) (v := ?_) rfl (by kernel_rfl) (by kernel_rfl) (by kernel_rfl) (fun _ _ _ h => h) (Or.inl ⟨by rfl, ?_⟩) (by assumption) ?_
    rotate_left
    · intro wS hSw; (try dsimp only at hSw); go_simp; try (with_reducible rfl)
    try simp only [Act.put, List.setIfInBounds_toArray, List.set_cons_zero, List.set_cons_succ]
    refine wpAnyH_take (i := 8) (oi := { dst := _, op := _, type := _, pos := _, after := _, guard := _ }) (v := ?_) rfl (by kernel_rfl) (by kernel_rfl) (by kernel_rfl) (fun _ _ _ h => h) (Or.inl ⟨by rfl, ?_⟩) (by assumption) ?_
    rotate_left
    · intro wS hSw; (try dsimp only at hSw); go_simp; try (with_reducible rfl)
    try simp only [Act.put, List.setIfInBounds_toArray, List.set_cons_zero, List.set_cons_succ]
    refine wpAnyH_take (i := 9) (oi := { dst := _, op := _, type := _, pos := _, after := _, guard := _ }) (v := ?_) rfl (by kernel_rfl) (by kernel_rfl) (by kernel_rfl) (fun _ _ _ h => h) (Or.inl ⟨by rfl, ?_⟩) (by assumption) ?_
    rotate_left
    · intro wS hSw; (try dsimp only at hSw); go_simp; try (with_reducible rfl)
    try simp only [Act.put, List.setIfInBounds_toArray, List.set_cons_zero, List.set_cons_succ]
    refine wpAnyH_take (i := 10) (oi := { dst := _, op := _, type := _, pos := _, after := _, guard := _ }) (v := ?_) rfl (by kernel_rfl) (by kernel_rfl) (by kernel_rfl) (fun _ _ _ h => h) (Or.inl ⟨by rfl, ?_⟩) (by assumption) ?_
    rotate_left
    · intro wS hSw; (try dsimp only at hSw); go_simp; try (with_reducible rfl)
    try simp only [Act.put, List.setIfInBounds_toArray, List.set_cons_zero, List.set_cons_succ]
    refine wpAnyH_take (i := 12) (oi := { dst := _, op := _, type := _, pos := _, after := _, guard := _ }) (v := ?_) rfl (by kernel_rfl) (by kernel_rfl) (by kernel_rfl) (fun _ _ _ h => h) (Or.inl ⟨by rfl, ?_⟩) (by assumption) ?_
    rotate_left
    · intro wS hSw; (try dsimp only at hSw); go_simp; try (with_reducible rfl)
    try simp only [Act.put, List.setIfInBounds_toArray, List.set_cons_zero, List.set_cons_succ]
    refine wpAnyH_ready (rs := [3]) (by kernel_rfl) (by simp) ?_
    refine AllReadyH.cons (o := { dst := _, op := _, type := _, pos := _, after := _, guard := _ }) rfl (fun K hK => ?_) AllReadyH.nil
    go_simp
    (go_at_call 50; refine (must_any _ _ _ _).mono ?_; rintro e w' ⟨caps, rfl, hb, hchk⟩)
    try go_wp2_with fail
    refine hK.out _ _ ?_ (fun hHeld => ?_)
    · (try dsimp only); first | assumption | exact keepP (by assumption) (by assumption) (Nat.lt_succ_self _) hB1 | exact keepP ((Below.refl _ _).alloc (Nat.le_refl _) _) (by assumption) (Nat.lt_succ_self _) hB1
    clear hK K
    try simp only [Act.put, List.setIfInBounds_toArray, List.set_cons_zero, List.set_cons_succ]
    refine wpAnyH_ready (rs := [7]) (by kernel_rfl) (by simp) ?_
    refine AllReadyH.cons (o := { dst := _, op := _, type := _, pos := _, after := _, guard := _ }) rfl (fun K hK => ?_) AllReadyH.nil
    go_simp
    (go_at_call 52; refine (each_any (w.heap.size + 1) W1 gs.length (ggE gs) _ _ _ hlen (by exact keepPLe hB1 (by assumption)) (by exact keepPB (by assumption)) HI1.out).mono ?_; rintro e w' ⟨caps, rfl, hb, hchk⟩)
    try go_wp2_with fail
    refine hK.out _ _ ?_ (fun hHeld => ?_)
    · (try dsimp only); first | assumption | exact keepP (by assumption) (by assumption) (Nat.lt_succ_self _) hB1 | exact keepP ((Below.refl _ _).alloc (Nat.le_refl _) _) (by assumption) (Nat.lt_succ_self _) hB1
    clear hK K
    try simp only [Act.put, List.setIfInBounds_toArray, List.set_cons_zero, List.set_cons_succ]
    refine wpAnyH_ready (rs := [11]) (by kernel_rfl) (by simp) ?_
    refine AllReadyH.cons (o := { dst := _, op := _, type := _, pos := _, after := _, guard := _ }) rfl (fun K hK => ?_) AllReadyH.nil
    go_simp
    (go_at_call 52; refine (each_any (w.heap.size + 1) W1 gs.length (twE gs) _ _ _ hlen (by exact keepPLe hB1 (by assumption)) (by exact keepPB (by assumption)) HI2.out).mono ?_; rintro e w' ⟨caps, rfl, hb, hchk⟩)
    try go_wp2_with fail
    refine hK.out _ _ ?_ (fun hHeld => ?_)
    · (try dsimp only); first | assumption | exact keepP (by assumption) (by assumption) (Nat.lt_succ_self _) hB1 | exact keepP ((Below.refl _ _).alloc (Nat.le_refl _) _) (by assumption) (Nat.lt_succ_self _) hB1
    clear hK K
    try simp only [Act.put, List.setIfInBounds_toArray, List.set_cons_zero, List.set_cons_succ]
    refine wpAnyH_ready (rs := [13]) (by kernel_rfl) (by simp) ?_
    refine AllReadyH.cons (o := { dst := _, op := _, type := _, pos := _, after := _, guard := _ }) rfl (fun K hK => ?_) AllReadyH.nil
    go_simp
    (go_at_call 59; refine (isTick_val _ _ _ hT).mono ?_; rintro e w' ⟨rfl, rfl⟩)
    try go_wp2_with fail
    refine hK.out _ _ ?_ (fun hHeld => ?_)
    · (try dsimp only); first | assumption | exact keepP (by assumption) (by assumption) (Nat.lt_succ_self _) hB1 | exact keepP ((Below.refl _ _).alloc (Nat.le_refl _) _) (by assumption) (Nat.lt_succ_self _) hB1
    clear hK K
    try simp only [Act.put, List.setIfInBounds_toArray, List.set_cons_zero, List.set_cons_succ]
    refine wpAnyH_take (i := 14) (oi := { dst := _, op := _, type := _, pos := _, after := _, guard := _ }) (v := ?_) rfl (by kernel_rfl) (by kernel_rfl) (by kernel_rfl) (fun _ _ _ h => h) (Or.inl ⟨by rfl, ?_⟩) (by assumption) ?_
    rotate_left
    · intro wS hSw; (try dsimp only at hSw); go_simp; try (with_reducible rfl)
    try simp only [Act.put, List.setIfInBounds_toArray, List.set_cons_zero, List.set_cons_succ]
    refine wpAnyH_take (i := 15) (oi := { dst := _, op := _, type := _, pos := _, after := _, guard := _ }) (v := undef) rfl (by kernel_rfl) (by kernel_rfl) (by kernel_rfl) (fun _ _ _ h => h) (Or.inr ⟨by rfl, rfl⟩) (by assumption) ?_
    try simp only [Act.put, List.setIfInBounds_toArray, List.set_cons_zero, List.set_cons_succ]
    refine wpAnyH_take (i := 16) (oi := { dst := _, op := _, type := _, pos := _, after := _, guard := _ }) (v := undef) rfl (by kernel_rfl) (by kernel_rfl) (by kernel_rfl) (fun _ _ _ h => h) (Or.inr ⟨by rfl, rfl⟩) (by assumption) ?_
    try simp only [Act.put, List.setIfInBounds_toArray, List.set_cons_zero, List.set_cons_succ]
    refine wpAnyH_take (i := 17) (oi := { dst := _, op := _, type := _, pos := _, after := _, guard := _ }) (v := ?_) rfl (by kernel_rfl) (by kernel_rfl) (by kernel_rfl) (fun _ _ _ h => h) (Or.inl ⟨by rfl, ?_⟩) (by assumption) ?_
    rotate_left
    · intro wS hSw; (try dsimp only at hSw); go_simp; try (with_reducible rfl)
    try simp only [Act.put, List.setIfInBounds_toArray, List.set_cons_zero, List.set_cons_succ]
    refine wpAnyH_ready (rs := [18]) (by kernel_rfl) (by simp) ?_
    refine AllReadyH.cons (o := { dst := _, op := _, type := _, pos := _, after := _, guard := _ }) rfl (fun K hK => ?_) AllReadyH.nil
    go_simp
    (go_at_call 50; refine (must_any _ _ _ _).mono ?_; rintro e w' ⟨caps, rfl, hb, hchk⟩)
    try go_wp2_with fail
    refine hK.out _ _ ?_ (fun hHeld => ?_)
    · (try dsimp only); first | assumption | exact keepP (by assumption) (by assumption) (Nat.lt_succ_self _) hB1 | exact keepP ((Below.refl _ _).alloc (Nat.le_refl _) _) (by assumption) (Nat.lt_succ_self _) hB1
    clear hK K
    try simp only [Act.put, List.setIfInBounds_toArray, List.set_cons_zero, List.set_cons_succ]
    refine wpAnyH_ready (rs := [19]) (by kernel_rfl) (by simp) ?_
    refine AllReadyH.cons (o := { dst := _, op := _, type := _, pos := _, after := _, guard := _ }) rfl (fun K hK => ?_) AllReadyH.nil
    go_simp
    refine hK.out _ _ ?_ (fun hHeld => ?_)
    · (try dsimp only); first | assumption | exact keepP (by assumption) (by assumption) (Nat.lt_succ_self _) hB1 | exact keepP ((Below.refl _ _).alloc (Nat.le_refl _) _) (by assumption) (Nat.lt_succ_self _) hB1
    clear hK K
    try simp only [Act.put, List.setIfInBounds_toArray, List.set_cons_zero, List.set_cons_succ]
    refine wpAnyH_ready (rs := [20]) (by kernel_rfl) (by simp) ?_
    refine AllReadyH.cons (o := { dst := _, op := _, type := _, pos := _, after := _, guard := _ }) rfl (fun K hK => ?_) AllReadyH.nil
    go_simp
    (go_at_call 49; apply Calls.mono; apply first4_chain; assumption; assumption; assumption; assumption; assumption; assumption; assumption; rintro e w' ⟨rfl, hb⟩)
    try go_wp2_with fail
    refine hK.out _ _ ?_ (fun hHeld => ?_)
    · (try dsimp only); first | assumption | exact keepP (by assumption) (by assumption) (Nat.lt_succ_self _) hB1 | exact keepP ((Below.refl _ _).alloc (Nat.le_refl _) _) (by assumption) (Nat.lt_succ_self _) hB1
    clear hK K
    try simp only [Act.put, List.setIfInBounds_toArray, List.set_cons_zero, List.set_cons_succ]
    refine wpAnyH_take (i := 21) (oi := { dst := _, op := _, type := _, pos := _, after := _, guard := _ }) (v := ?_) rfl (by kernel_rfl) (by kernel_rfl) (by kernel_rfl) (fun _ _ _ h => h) (Or.inl ⟨by rfl, ?_⟩) (by assumption) ?_
    rotate_left
    · intro wS hSw; (try dsimp only at hSw); go_simp; try (with_reducible rfl)
    try simp only [Act.put, List.setIfInBounds_toArray, List.set_cons_zero, List.set_cons_succ]
    refine wpAnyH_take (i := 22) (oi := { dst := _, op := _, type := _, pos := _, after := _, guard := _ }) (v := ?_) rfl (by kernel_rfl) (by kernel_rfl) (by kernel_rfl) (fun _ _ _ h => h) (Or.inl ⟨by rfl, ?_⟩) (by assumption) ?_
    rotate_left
    · intro wS hSw; (try dsimp only at hSw); go_simp; try (with_reducible rfl)
    try simp only [Act.put, List.setIfInBounds_toArray, List.set_cons_zero, List.set_cons_succ]
    refine wpAnyH_take (i := 23) (oi := { dst := _, op := _, type := _, pos := _, after := _, guard := _ }) (v := ?_) rfl (by kernel_rfl) (by kernel_rfl) (by kernel_rfl) (fun _ _ _ h => h) (Or.inl ⟨by rfl, ?_⟩) (by assumption) ?_
    rotate_left
    · intro wS hSw; (try dsimp only at hSw); go_simp; try (with_reducible rfl)
    try simp only [Act.put, List.setIfInBounds_toArray, List.set_cons_zero, List.set_cons_succ]
    refine wpAnyH_take (i := 24) (oi := { dst := _, op := _, type := _, pos := _, after := _, guard := _ }) (v := ?_) rfl (by kernel_rfl) (by kernel_rfl) (by kernel_rfl) (fun _ _ _ h => h) (Or.inl ⟨by rfl, ?_⟩) (by assumption) ?_
    rotate_left
    · intro wS hSw; (try dsimp only at hSw); go_simp; try (with_reducible rfl)
    try simp only [Act.put, List.setIfInBounds_toArray, List.set_cons_zero, List.set_cons_succ]
    refine wpAnyH_take (i := 25) (oi := { dst := _, op := _, type := _, pos := _, after := _, guard := _ }) (v := ?_) rfl (by kernel_rfl) (by kernel_rfl) (by kernel_rfl) (fun _ _ _ h => h) (Or.inl ⟨by rfl, ?_⟩) (by assumption) ?_
    rotate_left
    · intro wS hSw; (try dsimp only at hSw); go_simp; try (with_reducible rfl)
    try simp only [Act.put, List.setIfInBounds_toArray, List.set_cons_zero, List.set_cons_succ]
    refine wpAnyH_take (i := 26) (oi := { dst := _, op := _, type := _, pos := _, after := _, guard := _ }) (v := ?_) rfl (by kernel_rfl) (by kernel_rfl) (by kernel_rfl) (fun _ _ _ h => h) (Or.inl ⟨by rfl, ?_⟩) (by assumption) ?_
    rotate_left
    · intro wS hSw; (try dsimp only at hSw); go_simp; try (with_reducible rfl)
    try simp only [Act.put, List.setIfInBounds_toArray, List.set_cons_zero, List.set_cons_succ]
    refine wpAnyH_take (i := 27) (oi := { dst := _, op := _, type := _, pos := _, after := _, guard := _ }) (v := ?_) rfl (by kernel_rfl) (by kernel_rfl) (by kernel_rfl) (fun _ _ _ h => h) (Or.inl ⟨by rfl, ?_⟩) (by assumption) ?_
    rotate_left
    · intro wS hSw; (try dsimp only at hSw); go_simp; try (with_reducible rfl)
    try simp only [Act.put, List.setIfInBounds_toArray, List.set_cons_zero, List.set_cons_succ]
    refine wpAnyH_done (by kernel_rfl) ?_ _
    refine NoPanic.normal ?_
    have hfin := keepPB (by assumption : Below (w.heap.size + 1) W1 _ ∧ World.cell? _ ⟨w.heap.size, 0, none⟩ = some (.slice a gs.length cap))
    simp only [hT, Bool.false_and] at HE
    generalize firstAt 0 _ = r at *
    go_wp2_with fail
    go_ret
    exact ⟨by rw [HE.out]; rfl, B1.trans (hfin.mono (by omega))⟩
  · cases hN : inB now 0 200000
    · skip
      refine wp_region_noPanic ?_
      refine wp_region_held_drew (S := (fun w' => Below (w.heap.size + 1) W1 w' ∧ w'.cell? ⟨w.heap.size, 0, none⟩ = some (.slice a gs.length cap))) (by kernel_rfl) ?_ (fun hHeld => ?_)
      · exact ⟨(Below.refl _ _).drew, by simpa using t0⟩
      refine wpAnyH_take (i := 0) (oi := { dst := _, op := _, type := _, pos := _, after := _, guard := _ }) (v := ?_) rfl (by kernel_rfl) (by kernel_rfl) (by kernel_rfl) (fun _ _ _ h => h) (Or.inl ⟨by rfl, ?_⟩) (by assumption) ?_
      rotate_left
      · intro wS hSw; (try dsimp only at hSw); go_simp; try (with_reducible rfl)
      try simp only [Act.put, List.setIfInBounds_toArray, List.set_cons_zero, List.set_cons_succ]
      refine wpAnyH_take (i := 1) (oi := { dst := _, op := _, type := _, pos := _, after := _, guard := _ }) (v := ?_) rfl (by kernel_rfl) (by kernel_rfl) (by kernel_rfl) (fun _ _ _ h => h) (Or.inl ⟨by rfl, ?_⟩) (by assumption) ?_
      rotate_left
      · intro wS hSw; (try dsimp only at hSw); go_simp; try (with_reducible rfl)
      try simp only [Act.put, List.setIfInBounds_toArray, List.set_cons_zero, List.set_cons_succ]
      refine wpAnyH_take (i := 2) (oi := { dst := _, op := _, type := _, pos := _, after := _, guard := _ }) (v := ?_) rfl (by kernel_rfl) (by kernel_rfl) (by kernel_rfl) (fun _ _ _ h => h) (Or.inl ⟨by rfl, ?_⟩) (by assumption) ?_
      rotate_left
      · intro wS hSw; (try dsimp only at hSw); go_simp; try (with_reducible rfl)
      try simp only [Act.put, List.setIfInBounds_toArray, List.set_cons_zero, List.set_cons_succ]
      refine wpAnyH_take (i := 4) (oi := { dst := _, op := _, type := _, pos := _, after := _, guard := _ }) (v := ?_) rfl (by kernel_rfl) (by kernel_rfl) (by kernel_rfl) (fun _ _ _ h => h) (Or.inl ⟨by rfl, ?_⟩) (by assumption) ?_
      rotate_left
      · intro wS hSw; (try dsimp only at hSw); go_simp; try (with_reducible rfl)
      try simp only [Act.put, List.setIfInBounds_toArray, List.set_cons_zero, List.set_cons_succ]
      refine wpAnyH_take (i := 5) (oi := { dst := _, op := _, type := _, pos := _, after := _, guard := _ }) (v := ?_) rfl (by kernel_rfl) (by kernel_rfl) (by kernel_rfl) (fun _ _ _ h => h) (Or.inl ⟨by rfl, ?_⟩) (by assumption) ?_
      rotate_left
      · intro wS hSw; (try dsimp only at hSw); go_simp; try (with_reducible rfl)
      try simp only [Act.put, List.setIfInBounds_toArray, List.set_cons_zero, List.set_cons_succ]
      refine wpAnyH_take (i := 6) (oi := { dst := _, op := _, type := _, pos := _, after := _, guard := _ }) (v := ?_) rfl (by kernel_rfl) (by kernel_rfl) (by kernel_rfl) (fun _ _ _ h => h) (Or.inl ⟨by rfl, ?_⟩) (by assumption) ?_
      rotate_left
      · intro wS hSw; (try dsimp only at hSw); go_simp; try (with_reducible rfl)
      try simp only [Act.put, List.setIfInBounds_toArray, List.set_cons_zero, List.set_cons_succ]
      refine wpAnyH_take (i := 8) (oi := { dst := _, op := _, type := _, pos := _, after := _, guard := _ }) (v := ?_) rfl (by kernel_rfl) (by kernel_rfl) (by kernel_rfl) (fun _ _ _ h => h) (Or.inl ⟨by rfl, ?_⟩) (by assumption) ?_
      rotate_left
      · intro wS hSw; (try dsimp only at hSw); go_simp; try (with_reducible rfl)
      try simp only [Act.put, List.setIfInBounds_toArray, List.set_cons_zero, List.set_cons_succ]
      refine wpAnyH_take (i := 9) (oi := { dst := _, op := _, type := _, pos := _, after := _, guard := _ }) (v := ?_) rfl (by kernel_rfl) (by kernel_rfl) (by kernel_rfl) (fun _ _ _ h => h) (Or.inl ⟨by rfl, ?_⟩) (by assumption) ?_
      rotate_left
      · intro wS hSw; (try dsimp only at hSw); go_simp; try (with_reducible rfl)
      try simp only [Act.put, List.setIfInBounds_toArray, List.set_cons_zero, List.set_cons_succ]
      refine wpAnyH_take (i := 10) (oi := { dst := _, op := _, type := _, pos := _, after := _, guard := _ }) (v := ?_) rfl (by kernel_rfl) (by kernel_rfl) (by kernel_rfl) (fun _ _ _ h => h) (Or.inl ⟨by rfl, ?_⟩) (by assumption) ?_
      rotate_left
      · intro wS hSw; (try dsimp only at hSw); go_simp; try (with_reducible rfl)
      try simp only [Act.put, List.setIfInBounds_toArray, List.set_cons_zero, List.set_cons_succ]
      refine wpAnyH_take (i := 12) (oi := { dst := _, op := _, type := _, pos := _, after := _, guard := _ }) (v := ?_) rfl (by kernel_rfl) (by kernel_rfl) (by kernel_rfl) (fun _ _ _ h => h) (Or.inl ⟨by rfl, ?_⟩) (by assumption) ?_
      rotate_left
      · intro wS hSw; (try dsimp only at hSw); go_simp; try (with_reducible rfl)
      try simp only [Act.put, List.setIfInBounds_toArray, List.set_cons_zero, List.set_cons_succ]
      refine wpAnyH_ready (rs := [3]) (by kernel_rfl) (by simp) ?_
      refine AllReadyH.cons (o := { dst := _, op := _, type := _, pos := _, after := _, guard := _ }) rfl (fun K hK => ?_) AllReadyH.nil
      go_simp
      (go_at_call 50; refine (must_any _ _ _ _).mono ?_; rintro e w' ⟨caps, rfl, hb, hchk⟩)
      try go_wp2_with fail
      refine hK.out _ _ ?_ (fun hHeld => ?_)
      · (try dsimp only); first | assumption | exact keepP (by assumption) (by assumption) (Nat.lt_succ_self _) hB1 | exact keepP ((Below.refl _ _).alloc (Nat.le_refl _) _) (by assumption) (Nat.lt_succ_self _) hB1
      clear hK K
      try simp only [Act.put, List.setIfInBounds_toArray, List.set_cons_zero, List.set_cons_succ]
      refine wpAnyH_ready (rs := [7]) (by kernel_rfl) (by simp) ?_
      refine AllReadyH.cons (o := { dst := _, op := _, type := _, pos := _, after := _, guard := _ }) rfl (fun K hK => ?_) AllReadyH.nil
      go_simp
      (go_at_call 52; refine (each_any (w.heap.size + 1) W1 gs.length (ggE gs) _ _ _ hlen (by exact keepPLe hB1 (by assumption)) (by exact keepPB (by assumption)) HI1.out).mono ?_; rintro e w' ⟨caps, rfl, hb, hchk⟩)
      try go_wp2_with fail
      refine hK.out _ _ ?_ (fun hHeld => ?_)
      · (try dsimp only); first | assumption | exact keepP (by assumption) (by assumption) (Nat.lt_succ_self _) hB1 | exact keepP ((Below.refl _ _).alloc (Nat.le_refl _) _) (by assumption) (Nat.lt_succ_self _) hB1
      clear hK K
      try simp only [Act.put, List.setIfInBounds_toArray, List.set_cons_zero, List.set_cons_succ]
      refine wpAnyH_ready (rs := [11]) (by kernel_rfl) (by simp) ?_
      refine AllReadyH.cons (o := { dst := _, op := _, type := _, pos := _, after := _, guard := _ }) rfl (fun K hK => ?_) AllReadyH.nil
      go_simp
      (go_at_call 52; refine (each_any (w.heap.size + 1) W1 gs.length (twE gs) _ _ _ hlen (by exact keepPLe hB1 (by assumption)) (by exact keepPB (by assumption)) HI2.out).mono ?_; rintro e w' ⟨caps, rfl, hb, hchk⟩)
      try go_wp2_with fail
      refine hK.out _ _ ?_ (fun hHeld => ?_)
      · (try dsimp only); first | assumption | exact keepP (by assumption) (by assumption) (Nat.lt_succ_self _) hB1 | exact keepP ((Below.refl _ _).alloc (Nat.le_refl _) _) (by assumption) (Nat.lt_succ_self _) hB1
      clear hK K
      try simp only [Act.put, List.setIfInBounds_toArray, List.set_cons_zero, List.set_cons_succ]
      refine wpAnyH_ready (rs := [13]) (by kernel_rfl) (by simp) ?_
      refine AllReadyH.cons (o := { dst := _, op := _, type := _, pos := _, after := _, guard := _ }) rfl (fun K hK => ?_) AllReadyH.nil
      go_simp
      (go_at_call 59; refine (isTick_val _ _ _ hT).mono ?_; rintro e w' ⟨rfl, rfl⟩)
      try go_wp2_with fail
      refine hK.out _ _ ?_ (fun hHeld => ?_)
      · (try dsimp only); first | assumption | exact keepP (by assumption) (by assumption) (Nat.lt_succ_self _) hB1 | exact keepP ((Below.refl _ _).alloc (Nat.le_refl _) _) (by assumption) (Nat.lt_succ_self _) hB1
      clear hK K
      try simp only [Act.put, List.setIfInBounds_toArray, List.set_cons_zero, List.set_cons_succ]
      refine wpAnyH_take (i := 14) (oi := { dst := _, op := _, type := _, pos := _, after := _, guard := _ }) (v := ?_) rfl (by kernel_rfl) (by kernel_rfl) (by kernel_rfl) (fun _ _ _ h => h) (Or.inl ⟨by rfl, ?_⟩) (by assumption) ?_
      rotate_left
      · intro wS hSw; (try dsimp only at hSw); go_simp; try (with_reducible rfl)
      try simp only [Act.put, List.setIfInBounds_toArray, List.set_cons_zero, List.set_cons_succ]
      refine wpAnyH_take (i := 15) (oi := { dst := _, op := _, type := _, pos := _, after := _, guard := _ }) (v := ?_) rfl (by kernel_rfl) (by kernel_rfl) (by kernel_rfl) (fun _ _ _ h => h) (Or.inl ⟨by rfl, ?_⟩) (by assumption) ?_
      rotate_left
      · intro wS hSw; (try dsimp only at hSw); go_simp; try (with_reducible rfl)
      try simp only [Act.put, List.setIfInBounds_toArray, List.set_cons_zero, List.set_cons_succ]
      refine wpAnyH_ready (rs := [16]) (by kernel_rfl) (by simp) ?_
      refine AllReadyH.cons (o := { dst := _, op := _, type := _, pos := _, after := _, guard := _ }) rfl (fun K hK => ?_) AllReadyH.nil
      go_simp
      (go_at_call 59; refine (isTick_val _ _ _ hN).mono ?_; rintro e w' ⟨rfl, rfl⟩)
      try go_wp2_with fail
      refine hK.out _ _ ?_ (fun hHeld => ?_)
      · (try dsimp only); first | assumption | exact keepP (by assumption) (by assumption) (Nat.lt_succ_self _) hB1 | exact keepP ((Below.refl _ _).alloc (Nat.le_refl _) _) (by assumption) (Nat.lt_succ_self _) hB1
      clear hK K
      try simp only [Act.put, List.setIfInBounds_toArray, List.set_cons_zero, List.set_cons_succ]
      refine wpAnyH_take (i := 17) (oi := { dst := _, op := _, type := _, pos := _, after := _, guard := _ }) (v := ?_) rfl (by kernel_rfl) (by kernel_rfl) (by kernel_rfl) (fun _ _ _ h => h) (Or.inl ⟨by rfl, ?_⟩) (by assumption) ?_
      rotate_left
      · intro wS hSw; (try dsimp only at hSw); go_simp; try (with_reducible rfl)
      try simp only [Act.put, List.setIfInBounds_toArray, List.set_cons_zero, List.set_cons_succ]
      refine wpAnyH_ready (rs := [18]) (by kernel_rfl) (by simp) ?_
      refine AllReadyH.cons (o := { dst := _, op := _, type := _, pos := _, after := _, guard := _ }) rfl (fun K hK => ?_) AllReadyH.nil
      go_simp
      (go_at_call 50; refine (must_any _ _ _ _).mono ?_; rintro e w' ⟨caps, rfl, hb, hchk⟩)
      try go_wp2_with fail
      refine hK.out _ _ ?_ (fun hHeld => ?_)
      · (try dsimp only); first | assumption | exact keepP (by assumption) (by assumption) (Nat.lt_succ_self _) hB1 | exact keepP ((Below.refl _ _).alloc (Nat.le_refl _) _) (by assumption) (Nat.lt_succ_self _) hB1
      clear hK K
      try simp only [Act.put, List.setIfInBounds_toArray, List.set_cons_zero, List.set_cons_succ]
      refine wpAnyH_ready (rs := [19]) (by kernel_rfl) (by simp) ?_
      refine AllReadyH.cons (o := { dst := _, op := _, type := _, pos := _, after := _, guard := _ }) rfl (fun K hK => ?_) AllReadyH.nil
      go_simp
      refine hK.out _ _ ?_ (fun hHeld => ?_)
      · (try dsimp only); first | assumption | exact keepP (by assumption) (by assumption) (Nat.lt_succ_self _) hB1 | exact keepP ((Below.refl _ _).alloc (Nat.le_refl _) _) (by assumption) (Nat.lt_succ_self _) hB1
      clear hK K
      try simp only [Act.put, List.setIfInBounds_toArray, List.set_cons_zero, List.set_cons_succ]
      refine wpAnyH_ready (rs := [20]) (by kernel_rfl) (by simp) ?_
      refine AllReadyH.cons (o := { dst := _, op := _, type := _, pos := _, after := _, guard := _ }) rfl (fun K hK => ?_) AllReadyH.nil
      go_simp
      (go_at_call 49; apply Calls.mono; apply first4_chain; assumption; assumption; assumption; assumption; assumption; assumption; assumption; rintro e w' ⟨rfl, hb⟩)
      try go_wp2_with fail
      refine hK.out _ _ ?_ (fun hHeld => ?_)
      · (try dsimp only); first | assumption | exact keepP (by assumption) (by assumption) (Nat.lt_succ_self _) hB1 | exact keepP ((Below.refl _ _).alloc (Nat.le_refl _) _) (by assumption) (Nat.lt_succ_self _) hB1
      clear hK K
      try simp only [Act.put, List.setIfInBounds_toArray, List.set_cons_zero, List.set_cons_succ]
      refine wpAnyH_take (i := 21) (oi := { dst := _, op := _, type := _, pos := _, after := _, guard := _ }) (v := ?_) rfl (by kernel_rfl) (by kernel_rfl) (by kernel_rfl) (fun _ _ _ h => h) (Or.inl ⟨by rfl, ?_⟩) (by assumption) ?_
      rotate_left
      · intro wS hSw; (try dsimp only at hSw); go_simp; try (with_reducible rfl)
      try simp only [Act.put, List.setIfInBounds_toArray, List.set_cons_zero, List.set_cons_succ]
      refine wpAnyH_take (i := 22) (oi := { dst := _, op := _, type := _, pos := _, after := _, guard := _ }) (v := ?_) rfl (by kernel_rfl) (by kernel_rfl) (by kernel_rfl) (fun _ _ _ h => h) (Or.inl ⟨by rfl, ?_⟩) (by assumption) ?_
      rotate_left
      · intro wS hSw; (try dsimp only at hSw); go_simp; try (with_reducible rfl)
      try simp only [Act.put, List.setIfInBounds_toArray, List.set_cons_zero, List.set_cons_succ]
      refine wpAnyH_take (i := 23) (oi := { dst := _, op := _, type := _, pos := _, after := _, guard := _ }) (v := ?_) rfl (by kernel_rfl) (by kernel_rfl) (by kernel_rfl) (fun _ _ _ h => h) (Or.inl ⟨by rfl, ?_⟩) (by assumption) ?_
      rotate_left
      · intro wS hSw; (try dsimp only at hSw); go_simp; try (with_reducible rfl)
      try simp only [Act.put, List.setIfInBounds_toArray, List.set_cons_zero, List.set_cons_succ]
      refine wpAnyH_take (i := 24) (oi := { dst := _, op := _, type := _, pos := _, after := _, guard := _ }) (v := ?_) rfl (by kernel_rfl) (by kernel_rfl) (by kernel_rfl) (fun _ _ _ h => h) (Or.inl ⟨by rfl, ?_⟩) (by assumption) ?_
      rotate_left
      · intro wS hSw; (try dsimp only at hSw); go_simp; try (with_reducible rfl)
      try simp only [Act.put, List.setIfInBounds_toArray, List.set_cons_zero, List.set_cons_succ]
      refine wpAnyH_take (i := 25) (oi := { dst := _, op := _, type := _, pos := _, after := _, guard := _ }) (v := ?_) rfl (by kernel_rfl) (by kernel_rfl) (by kernel_rfl) (fun _ _ _ h => h) (Or.inl ⟨by rfl, ?_⟩) (by assumption) ?_
      rotate_left
      · intro wS hSw; (try dsimp only at hSw); go_simp; try (with_reducible rfl)
      try simp only [Act.put, List.setIfInBounds_toArray, List.set_cons_zero, List.set_cons_succ]
      refine wpAnyH_take (i := 26) (oi := { dst := _, op := _, type := _, pos := _, after := _, guard := _ }) (v := ?_) rfl (by kernel_rfl) (by kernel_rfl) (by kernel_rfl) (fun _ _ _ h => h) (Or.inl ⟨by rfl, ?_⟩) (by assumption) ?_
      rotate_left
      · intro wS hSw; (try dsimp only at hSw); go_simp; try (with_reducible rfl)
      try simp only [Act.put, List.setIfInBounds_toArray, List.set_cons_zero, List.set_cons_succ]
      refine wpAnyH_take (i := 27) (oi := { dst := _, op := _, type := _, pos := _, after := _, guard := _ }) (v := ?_) rfl (by kernel_rfl) (by kernel_rfl) (by kernel_rfl) (fun _ _ _ h => h) (Or.inl ⟨by rfl, ?_⟩) (by assumption) ?_
      rotate_left
      · intro wS hSw; (try dsimp only at hSw); go_simp; try (with_reducible rfl)
      try simp only [Act.put, List.setIfInBounds_toArray, List.set_cons_zero, List.set_cons_succ]
      refine wpAnyH_done (by kernel_rfl) ?_ _
      refine NoPanic.normal ?_
      have hfin := keepPB (by assumption : Below (w.heap.size + 1) W1 _ ∧ World.cell? _ ⟨w.heap.size, 0, none⟩ = some (.slice a gs.length cap))
      simp only [hT, hN, Bool.true_and] at HE
      generalize firstAt 0 _ = r at *
      go_wp2_with fail
      go_ret
      exact ⟨by rw [HE.out]; rfl, B1.trans (hfin.mono (by omega))⟩
    · skip
      refine wp_region_noPanic ?_
      refine wp_region_held_drew (S := (fun w' => Below (w.heap.size + 1) W1 w' ∧ w'.cell? ⟨w.heap.size, 0, none⟩ = some (.slice a gs.length cap))) (by kernel_rfl) ?_ (fun hHeld => ?_)
      · exact ⟨(Below.refl _ _).drew, by simpa using t0⟩
      refine wpAnyH_take (i := 0) (oi := { dst := _, op := _, type := _, pos := _, after := _, guard := _ }) (v := ?_) rfl (by kernel_rfl) (by kernel_rfl) (by kernel_rfl) (fun _ _ _ h => h) (Or.inl ⟨by rfl, ?_⟩) (by assumption) ?_
      rotate_left
      · intro wS hSw; (try dsimp only at hSw); go_simp; try (with_reducible rfl)
      try simp only [Act.put, List.setIfInBounds_toArray, List.set_cons_zero, List.set_cons_succ]
      refine wpAnyH_take (i := 1) (oi := { dst := _, op := _, type := _, pos := _, after := _, guard := _ }) (v := ?_) rfl (by kernel_rfl) (by kernel_rfl) (by kernel_rfl) (fun _ _ _ h => h) (Or.inl ⟨by rfl, ?_⟩) (by assumption) ?_
      rotate_left
      · intro wS hSw; (try dsimp only at hSw); go_simp; try (with_reducible rfl)
      try simp only [Act.put, List.setIfInBounds_toArray, List.set_cons_zero, List.set_cons_succ]
      refine wpAnyH_take (i := 2) (oi := { dst := _, op := _, type := _, pos := _, after := _, guard := _ }) (v := ?_) rfl (by kernel_rfl) (by kernel_rfl) (by kernel_rfl) (fun _ _ _ h => h) (Or.inl ⟨by rfl, ?_⟩) (by assumption) ?_
      rotate_left
      · intro wS hSw; (try dsimp only at hSw); go_simp; try (with_reducible rfl)
      try simp only [Act.put, List.setIfInBounds_toArray, List.set_cons_zero, List.set_cons_succ]
      refine wpAnyH_take (i := 4) (oi := { dst := _, op := _, type := _, pos := _, after := _, guard := _ }) (v := ?_) rfl (by kernel_rfl) (by kernel_rfl) (by kernel_rfl) (fun _ _ _ h => h) (Or.inl ⟨by rfl, ?_⟩) (by assumption) ?_
      rotate_left
      · intro wS hSw; (try dsimp only at hSw); go_simp; try (with_reducible rfl)
      try simp only [Act.put, List.setIfInBounds_toArray, List.set_cons_zero, List.set_cons_succ]
      refine wpAnyH_take (i := 5) (oi := { dst := _, op := _, type := _, pos := _, after := _, guard := _ }) (v := ?_) rfl (by kernel_rfl) (by kernel_rfl) (by kernel_rfl) (fun _ _ _ h => h) (Or.inl ⟨by rfl, ?_⟩) (by assumption) ?_
      rotate_left
      · intro wS hSw; (try dsimp only at hSw); go_simp; try (with_reducible rfl)
      try simp only [Act.put, List.setIfInBounds_toArray, List.set_cons_zero, List.set_cons_succ]
      refine wpAnyH_take (i := 6) (oi := { dst := _, op := _, type := _, pos := _, after := _, guard := _ }) (v := ?_) rfl (by kernel_rfl) (by kernel_rfl) (by kernel_rfl) (fun _ _ _ h => h) (Or.inl ⟨by rfl, ?_⟩) (by assumption) ?_
      rotate_left
      · intro wS hSw; (try dsimp only at hSw); go_simp; try (with_reducible rfl)
      try simp only [Act.put, List.setIfInBounds_toArray, List.set_cons_zero, List.set_cons_succ]
      refine wpAnyH_take (i := 8) (oi := { dst := _, op := _, type := _, pos := _, after := _, guard := _ }) (v := ?_) rfl (by kernel_rfl) (by kernel_rfl) (by kernel_rfl) (fun _ _ _ h => h) (Or.inl ⟨by rfl, ?_⟩) (by assumption) ?_
      rotate_left
      · intro wS hSw; (try dsimp only at hSw); go_simp; try (with_reducible rfl)
      try simp only [Act.put, List.setIfInBounds_toArray, List.set_cons_zero, List.set_cons_succ]
      refine wpAnyH_take (i := 9) (oi := { dst := _, op := _, type := _, pos := _, after := _, guard := _ }) (v := ?_) rfl (by kernel_rfl) (by kernel_rfl) (by kernel_rfl) (fun _ _ _ h => h) (Or.inl ⟨by rfl, ?_⟩) (by assumption) ?_
      rotate_left
      · intro wS hSw; (try dsimp only at hSw); go_simp; try (with_reducible rfl)
      try simp only [Act.put, List.setIfInBounds_toArray, List.set_cons_zero, List.set_cons_succ]
      refine wpAnyH_take (i := 10) (oi := { dst := _, op := _, type := _, pos := _, after := _, guard := _ }) (v := ?_) rfl (by kernel_rfl) (by kernel_rfl) (by kernel_rfl) (fun _ _ _ h => h) (Or.inl ⟨by rfl, ?_⟩) (by assumption) ?_
      rotate_left
      · intro wS hSw; (try dsimp only at hSw); go_simp; try (with_reducible rfl)
      try simp only [Act.put, List.setIfInBounds_toArray, List.set_cons_zero, List.set_cons_succ]
      refine wpAnyH_take (i := 12) (oi := { dst := _, op := _, type := _, pos := _, after := _, guard := _ }) (v := ?_) rfl (by kernel_rfl) (by kernel_rfl) (by kernel_rfl) (fun _ _ _ h => h) (Or.inl ⟨by rfl, ?_⟩) (by assumption) ?_
      rotate_left
      · intro wS hSw; (try dsimp only at hSw); go_simp; try (with_reducible rfl)
      try simp only [Act.put, List.setIfInBounds_toArray, List.set_cons_zero, List.set_cons_succ]
      refine wpAnyH_ready (rs := [3]) (by kernel_rfl) (by simp) ?_
      refine AllReadyH.cons (o := { dst := _, op := _, type := _, pos := _, after := _, guard := _ }) rfl (fun K hK => ?_) AllReadyH.nil
      go_simp
      (go_at_call 50; refine (must_any _ _ _ _).mono ?_; rintro e w' ⟨caps, rfl, hb, hchk⟩)
      try go_wp2_with fail
      refine hK.out _ _ ?_ (fun hHeld => ?_)
      · (try dsimp only); first | assumption | exact keepP (by assumption) (by assumption) (Nat.lt_succ_self _) hB1 | exact keepP ((Below.refl _ _).alloc (Nat.le_refl _) _) (by assumption) (Nat.lt_succ_self _) hB1
      clear hK K
      try simp only [Act.put, List.setIfInBounds_toArray, List.set_cons_zero, List.set_cons_succ]
      refine wpAnyH_ready (rs := [7]) (by kernel_rfl) (by simp) ?_
      refine AllReadyH.cons (o := { dst := _, op := _, type := _, pos := _, after := _, guard := _ }) rfl (fun K hK => ?_) AllReadyH.nil
      go_simp
      (go_at_call 52; refine (each_any (w.heap.size + 1) W1 gs.length (ggE gs) _ _ _ hlen (by exact keepPLe hB1 (by assumption)) (by exact keepPB (by assumption)) HI1.out).mono ?_; rintro e w' ⟨caps, rfl, hb, hchk⟩)
      try go_wp2_with fail
      refine hK.out _ _ ?_ (fun hHeld => ?_)
      · (try dsimp only); first | assumption | exact keepP (by assumption) (by assumption) (Nat.lt_succ_self _) hB1 | exact keepP ((Below.refl _ _).alloc (Nat.le_refl _) _) (by assumption) (Nat.lt_succ_self _) hB1
      clear hK K
      try simp only [Act.put, List.setIfInBounds_toArray, List.set_cons_zero, List.set_cons_succ]
      refine wpAnyH_ready (rs := [11]) (by kernel_rfl) (by simp) ?_
      refine AllReadyH.cons (o := { dst := _, op := _, type := _, pos := _, after := _, guard := _ }) rfl (fun K hK => ?_) AllReadyH.nil
      go_simp
      (go_at_call 52; refine (each_any (w.heap.size + 1) W1 gs.length (twE gs) _ _ _ hlen (by exact keepPLe hB1 (by assumption)) (by exact keepPB (by assumption)) HI2.out).mono ?_; rintro e w' ⟨caps, rfl, hb, hchk⟩)
      try go_wp2_with fail
      refine hK.out _ _ ?_ (fun hHeld => ?_)
      · (try dsimp only); first | assumption | exact keepP (by assumption) (by assumption) (Nat.lt_succ_self _) hB1 | exact keepP ((Below.refl _ _).alloc (Nat.le_refl _) _) (by assumption) (Nat.lt_succ_self _) hB1
      clear hK K
      try simp only [Act.put, List.setIfInBounds_toArray, List.set_cons_zero, List.set_cons_succ]
      refine wpAnyH_ready (rs := [13]) (by kernel_rfl) (by simp) ?_
      refine AllReadyH.cons (o := { dst := _, op := _, type := _, pos := _, after := _, guard := _ }) rfl (fun K hK => ?_) AllReadyH.nil
      go_simp
      (go_at_call 59; refine (isTick_val _ _ _ hT).mono ?_; rintro e w' ⟨rfl, rfl⟩)
      try go_wp2_with fail
      refine hK.out _ _ ?_ (fun hHeld => ?_)
      · (try dsimp only); first | assumption | exact keepP (by assumption) (by assumption) (Nat.lt_succ_self _) hB1 | exact keepP ((Below.refl _ _).alloc (Nat.le_refl _) _) (by assumption) (Nat.lt_succ_self _) hB1
      clear hK K
      try simp only [Act.put, List.setIfInBounds_toArray, List.set_cons_zero, List.set_cons_succ]
      refine wpAnyH_take (i := 14) (oi := { dst := _, op := _, type := _, pos := _, after := _, guard := _ }) (v := ?_) rfl (by kernel_rfl) (by kernel_rfl) (by kernel_rfl) (fun _ _ _ h => h) (Or.inl ⟨by rfl, ?_⟩) (by assumption) ?_
      rotate_left
      · intro wS hSw; (try dsimp only at hSw); go_simp; try (with_reducible rfl)
      try simp only [Act.put, List.setIfInBounds_toArray, List.set_cons_zero, List.set_cons_succ]
      refine wpAnyH_take (i := 15) (oi := { dst := _, op := _, type := _, pos := _, after := _, guard := _ }) (v := ?_) rfl (by kernel_rfl) (by kernel_rfl) (by kernel_rfl) (fun _ _ _ h => h) (Or.inl ⟨by rfl, ?_⟩) (by assumption) ?_
      rotate_left
      · intro wS hSw; (try dsimp only at hSw); go_simp; try (with_reducible rfl)
      try simp only [Act.put, List.setIfInBounds_toArray, List.set_cons_zero, List.set_cons_succ]
      refine wpAnyH_ready (rs := [16]) (by kernel_rfl) (by simp) ?_
      refine AllReadyH.cons (o := { dst := _, op := _, type := _, pos := _, after := _, guard := _ }) rfl (fun K hK => ?_) AllReadyH.nil
      go_simp
      (go_at_call 59; refine (isTick_val _ _ _ hN).mono ?_; rintro e w' ⟨rfl, rfl⟩)
      try go_wp2_with fail
      refine hK.out _ _ ?_ (fun hHeld => ?_)
      · (try dsimp only); first | assumption | exact keepP (by assumption) (by assumption) (Nat.lt_succ_self _) hB1 | exact keepP ((Below.refl _ _).alloc (Nat.le_refl _) _) (by assumption) (Nat.lt_succ_self _) hB1
      clear hK K
      try simp only [Act.put, List.setIfInBounds_toArray, List.set_cons_zero, List.set_cons_succ]
      refine wpAnyH_take (i := 17) (oi := { dst := _, op := _, type := _, pos := _, after := _, guard := _ }) (v := ?_) rfl (by kernel_rfl) (by kernel_rfl) (by kernel_rfl) (fun _ _ _ h => h) (Or.inl ⟨by rfl, ?_⟩) (by assumption) ?_
      rotate_left
      · intro wS hSw; (try dsimp only at hSw); go_simp; try (with_reducible rfl)
      try simp only [Act.put, List.setIfInBounds_toArray, List.set_cons_zero, List.set_cons_succ]
      refine wpAnyH_ready (rs := [18]) (by kernel_rfl) (by simp) ?_
      refine AllReadyH.cons (o := { dst := _, op := _, type := _, pos := _, after := _, guard := _ }) rfl (fun K hK => ?_) AllReadyH.nil
      go_simp
      (go_at_call 50; refine (must_any _ _ _ _).mono ?_; rintro e w' ⟨caps, rfl, hb, hchk⟩)
      try go_wp2_with fail
      refine hK.out _ _ ?_ (fun hHeld => ?_)
      · (try dsimp only); first | assumption | exact keepP (by assumption) (by assumption) (Nat.lt_succ_self _) hB1 | exact keepP ((Below.refl _ _).alloc (Nat.le_refl _) _) (by assumption) (Nat.lt_succ_self _) hB1
      clear hK K
      try simp only [Act.put, List.setIfInBounds_toArray, List.set_cons_zero, List.set_cons_succ]
      refine wpAnyH_ready (rs := [19]) (by kernel_rfl) (by simp) ?_
      refine AllReadyH.cons (o := { dst := _, op := _, type := _, pos := _, after := _, guard := _ }) rfl (fun K hK => ?_) AllReadyH.nil
      go_simp
      refine hK.out _ _ ?_ (fun hHeld => ?_)
      · (try dsimp only); first | assumption | exact keepP (by assumption) (by assumption) (Nat.lt_succ_self _) hB1 | exact keepP ((Below.refl _ _).alloc (Nat.le_refl _) _) (by assumption) (Nat.lt_succ_self _) hB1
      clear hK K
      try simp only [Act.put, List.setIfInBounds_toArray, List.set_cons_zero, List.set_cons_succ]
      refine wpAnyH_ready (rs := [20]) (by kernel_rfl) (by simp) ?_
      refine AllReadyH.cons (o := { dst := _, op := _, type := _, pos := _, after := _, guard := _ }) rfl (fun K hK => ?_) AllReadyH.nil
      go_simp
      (go_at_call 49; apply Calls.mono; apply first4_chain; assumption; assumption; assumption; assumption; assumption; assumption; assumption; rintro e w' ⟨rfl, hb⟩)
      try go_wp2_with fail
      refine hK.out _ _ ?_ (fun hHeld => ?_)
      · (try dsimp only); first | assumption | exact keepP (by assumption) (by assumption) (Nat.lt_succ_self _) hB1 | exact keepP ((Below.refl _ _).alloc (Nat.le_refl _) _) (by assumption) (Nat.lt_succ_self _) hB1
      clear hK K
      try simp only [Act.put, List.setIfInBounds_toArray, List.set_cons_zero, List.set_cons_succ]
      refine wpAnyH_take (i := 21) (oi := { dst := _, op := _, type := _, pos := _, after := _, guard := _ }) (v := ?_) rfl (by kernel_rfl) (by kernel_rfl) (by kernel_rfl) (fun _ _ _ h => h) (Or.inl ⟨by rfl, ?_⟩) (by assumption) ?_
      rotate_left
      · intro wS hSw; (try dsimp only at hSw); go_simp; try (with_reducible rfl)
      try simp only [Act.put, List.setIfInBounds_toArray, List.set_cons_zero, List.set_cons_succ]
      refine wpAnyH_take (i := 22) (oi := { dst := _, op := _, type := _, pos := _, after := _, guard := _ }) (v := ?_) rfl (by kernel_rfl) (by kernel_rfl) (by kernel_rfl) (fun _ _ _ h => h) (Or.inl ⟨by rfl, ?_⟩) (by assumption) ?_
      rotate_left
      · intro wS hSw; (try dsimp only at hSw); go_simp; try (with_reducible rfl)
      try simp only [Act.put, List.setIfInBounds_toArray, List.set_cons_zero, List.set_cons_succ]
      refine wpAnyH_take (i := 23) (oi := { dst := _, op := _, type := _, pos := _, after := _, guard := _ }) (v := ?_) rfl (by kernel_rfl) (by kernel_rfl) (by kernel_rfl) (fun _ _ _ h => h) (Or.inl ⟨by rfl, ?_⟩) (by assumption) ?_
      rotate_left
      · intro wS hSw; (try dsimp only at hSw); go_simp; try (with_reducible rfl)
      try simp only [Act.put, List.setIfInBounds_toArray, List.set_cons_zero, List.set_cons_succ]
      refine wpAnyH_take (i := 24) (oi := { dst := _, op := _, type := _, pos := _, after := _, guard := _ }) (v := ?_) rfl (by kernel_rfl) (by kernel_rfl) (by kernel_rfl) (fun _ _ _ h => h) (Or.inl ⟨by rfl, ?_⟩) (by assumption) ?_
      rotate_left
      · intro wS hSw; (try dsimp only at hSw); go_simp; try (with_reducible rfl)
      try simp only [Act.put, List.setIfInBounds_toArray, List.set_cons_zero, List.set_cons_succ]
      refine wpAnyH_take (i := 25) (oi := { dst := _, op := _, type := _, pos := _, after := _, guard := _ }) (v := ?_) rfl (by kernel_rfl) (by kernel_rfl) (by kernel_rfl) (fun _ _ _ h => h) (Or.inl ⟨by rfl, ?_⟩) (by assumption) ?_
      rotate_left
      · intro wS hSw; (try dsimp only at hSw); go_simp; try (with_reducible rfl)
      try simp only [Act.put, List.setIfInBounds_toArray, List.set_cons_zero, List.set_cons_succ]
      refine wpAnyH_take (i := 26) (oi := { dst := _, op := _, type := _, pos := _, after := _, guard := _ }) (v := ?_) rfl (by kernel_rfl) (by kernel_rfl) (by kernel_rfl) (fun _ _ _ h => h) (Or.inl ⟨by rfl, ?_⟩) (by assumption) ?_
      rotate_left
      · intro wS hSw; (try dsimp only at hSw); go_simp; try (with_reducible rfl)
      try simp only [Act.put, List.setIfInBounds_toArray, List.set_cons_zero, List.set_cons_succ]
      refine wpAnyH_take (i := 27) (oi := { dst := _, op := _, type := _, pos := _, after := _, guard := _ }) (v := ?_) rfl (by kernel_rfl) (by kernel_rfl) (by kernel_rfl) (fun _ _ _ h => h) (Or.inl ⟨by rfl, ?_⟩) (by assumption) ?_
      rotate_left
      · intro wS hSw; (try dsimp only at hSw); go_simp; try (with_reducible rfl)
      try simp only [Act.put, List.setIfInBounds_toArray, List.set_cons_zero, List.set_cons_succ]
      refine wpAnyH_done (by kernel_rfl) ?_ _
      refine NoPanic.normal ?_
      have hfin := keepPB (by assumption : Below (w.heap.size + 1) W1 _ ∧ World.cell? _ ⟨w.heap.size, 0, none⟩ = some (.slice a gs.length cap))
      simp only [hT, hN, Bool.true_and] at HE
      generalize firstAt 0 _ = r at *
      go_wp2_with fail
      go_ret
      exact ⟨by rw [HE.out]; rfl, B1.trans (hfin.mono (by omega))⟩
end Go.Proofs.Ytblneiegekdnjaa
