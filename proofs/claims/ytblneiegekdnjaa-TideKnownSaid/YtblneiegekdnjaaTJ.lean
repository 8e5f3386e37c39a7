/- Tide, part J: gauges in memory, and their check. -/
import Derived.Test.YtblneiegekdnjaaTR
import Derived.Test.YtblneiegekdnjaaTG
set_option linter.all false
namespace Go.Proofs.Ytblneiegekdnjaa
open Go.RowKit

structure Dat where
  from_ : Int
  lo : Int
  hi : Int
  deriving Inhabited
structure Rdg where
  tick : Int
  value : Int
  deriving Inhabited
structure Gau where
  name : ByteArray
  err : Int
  rate : Int
  ds : List Dat
  rs : List Rdg
  deriving Inhabited

structure DatAt (w : World) (b o : Nat) (d : Dat) : Prop where
  c0 : w.cell? ⟨b, o, none⟩ = some (.int .i64 d.from_)
  c1 : w.cell? ⟨b, o + 1, none⟩ = some (.int .i64 d.lo)
  c2 : w.cell? ⟨b, o + 2, none⟩ = some (.int .i64 d.hi)
structure RdgAt (w : World) (b o : Nat) (r : Rdg) : Prop where
  c0 : w.cell? ⟨b, o, none⟩ = some (.int .i64 r.tick)
  c1 : w.cell? ⟨b, o + 1, none⟩ = some (.int .i64 r.value)
/-- Rows of a slice, from an address on, if there are any. -/
def RowsAt {α : Type} (R : World → Nat → Nat → α → Prop) (size : Nat) (w : World) (a : Option Addr) (l : List α) : Prop :=
  l = [] ∨ ∃ b o, a = some ⟨b, o, none⟩ ∧ b < w.heap.size ∧ ∀ i (h : i < l.length), R w b (o + i * size) l[i]
theorem RowsAt.later {α : Type} {R : World → Nat → Nat → α → Prop} {size : Nat} {w w' : World} {a : Option Addr} {l : List α} {B : Nat} (h : RowsAt R size w a l) (hb : Below B w w') (hB : w.heap.size ≤ B)
    (hR : ∀ b o x, b < B → R w b o x → R w' b o x) : RowsAt R size w' a l := by
  rcases h with h | ⟨b, o, ha, hs, hc⟩
  · exact .inl h
  · exact .inr ⟨b, o, ha, Nat.lt_of_lt_of_le hs hb.size, fun i hi => hR _ _ _ (by omega) (hc i hi)⟩
theorem DatAt.later {w w' : World} {B : Nat} (hb : Below B w w') (b o : Nat) (d : Dat) (hB : b < B) (h : DatAt w b o d) : DatAt w' b o d :=
  have e : ∀ o, w'.cell? ⟨b, o, none⟩ = w.cell? ⟨b, o, none⟩ := fun o => hb.cell (p := ⟨b, o, none⟩) hB
  ⟨(e _).trans h.c0, (e _).trans h.c1, (e _).trans h.c2⟩
theorem RdgAt.later {w w' : World} {B : Nat} (hb : Below B w w') (b o : Nat) (d : Rdg) (hB : b < B) (h : RdgAt w b o d) : RdgAt w' b o d :=
  have e : ∀ o, w'.cell? ⟨b, o, none⟩ = w.cell? ⟨b, o, none⟩ := fun o => hb.cell (p := ⟨b, o, none⟩) hB
  ⟨(e _).trans h.c0, (e _).trans h.c1⟩

/-- Where a gauge's lists lie: the addresses and the capacities. -/
structure GPos where
  da : Option Addr
  dc : Nat
  ra : Option Addr
  rc : Nat
structure GauWf (g : Gau) (p : GPos) : Prop where
  name : g.name.size ≤ maxLen
  err : I64 g.err
  rate : I64 g.rate
  dlen : g.ds.length ≤ p.dc
  dcap : g.ds.length ≤ 140737488355328
  rlen : g.rs.length ≤ p.rc
  rcap : g.rs.length ≤ 140737488355328
  ds : ∀ d ∈ g.ds, I64 d.from_ ∧ I64 d.lo ∧ I64 d.hi
  rs : ∀ r ∈ g.rs, I64 r.tick ∧ I64 r.value
/-- A gauge's lists in memory. -/
structure GauOk (w : World) (p : GPos) (g : Gau) : Prop where
  wf : GauWf g p
  ds : RowsAt DatAt 3 w p.da g.ds
  rs : RowsAt RdgAt 2 w p.ra g.rs
theorem GauOk.later {w w' : World} {p : GPos} {g : Gau} {B : Nat} (h : GauOk w p g) (hb : Below B w w') (hB : w.heap.size ≤ B) : GauOk w' p g :=
  ⟨h.wf, h.ds.later hb hB fun _ _ _ => DatAt.later hb _ _ _, h.rs.later hb hB fun _ _ _ => RdgAt.later hb _ _ _⟩

/-! ### The check, as numbers -/

/-- Is a span, which need be none, inside of two limits? -/
def insB (a b l h : Int) : Bool := decide (l ≤ a ∧ a ≤ b ∧ b ≤ h)
theorem insB_iff {a b l h : Int} : insB a b l h = true ↔ l ≤ a ∧ a ≤ b ∧ b ≤ h := by simp [insB]
theorem insB_no {a b l h : Int} : insB a b l h = false ↔ ¬ (l ≤ a ∧ a ≤ b ∧ b ≤ h) := by simp only [insB, decide_eq_false_iff_not]
def datB (ds : List Dat) (i : Nat) : Bool :=
  let d := ds.getD i default
  (if i = 0 then decide (d.from_ = 0) else inB d.from_ 0 200000 && decide ((ds.getD (i - 1) default).from_ < d.from_)) && insB d.lo d.hi (-5000) 5000
def datE (ds : List Dat) (i : Nat) : Int := if datB ds i = true then 0 else 7
def rdgB (rs : List Rdg) (i : Nat) : Bool :=
  let r := rs.getD i default
  inB r.tick 0 200000 && (decide (i = 0) || decide ((rs.getD (i - 1) default).tick < r.tick)) && inB r.value (-30000) 30000
def rdgE (rs : List Rdg) (i : Nat) : Int := if rdgB rs i = true then 0 else 7
def headE (g : Gau) : Int := if nameB g.name.data.toList = false then 6 else if (inB g.err 0 5000 && inB g.rate 0 5000) = false then 7 else 0
def datsP (ds : List Dat) : Int × Int := if inB ds.length 1 8 = false then (0, 3) else eachP (datE ds) 0 ds.length
def rdgsP (rs : List Rdg) : Int × Int := if 60 < rs.length then (0, 3) else eachP (rdgE rs) 0 rs.length
/-- The part, the index and the error of a gauge. -/
def gaugeP (g : Gau) : Int × Int × Int :=
  if headE g ≠ 0 then (1, 0, headE g) else if (datsP g.ds).2 ≠ 0 then (2, datsP g.ds) else if (rdgsP g.rs).2 ≠ 0 then (3, rdgsP g.rs) else (0, 0, 0)

/-! ### Methods of spans -/

theorem inside_any (a b l h : Int) (w : World) :
    Calls Try.prog 86 #[.agg #[.int .i64 a, .int .i64 b], .int .i64 l, .int .i64 h] w fun e w' => e = .returned (.bool (insB a b l h)) ∧ Below w.heap.size w w' := by
  by_cases h1 : l ≤ a <;> by_cases h2 : a ≤ b <;> by_cases h3 : b ≤ h
  all_goals
    have hh : insB a b l h = decide (l ≤ a ∧ a ≤ b ∧ b ≤ h) := rfl
    simp only [h1, h2, h3, and_self, and_true, and_false, decide_true, decide_false] at hh
    have H := hid hh; clear hh
    go_enter Try.func86, Try.ntmps86
    go_wp2
    go_ret
    exact ⟨ret_bool (by rw [H.out]), (Below.refl _ _).alloc (Nat.le_refl _) _⟩
theorem inside_val (v : Bool) (a b l h : Int) (w : World) (hv : insB a b l h = v) :
    Calls Try.prog 86 #[.agg #[.int .i64 a, .int .i64 b], .int .i64 l, .int .i64 h] w fun e w' => e = .returned (.bool v) ∧ Below w.heap.size w w' := by
  rw [← hv]; exact inside_any a b l h w
theorem isTick_val (v : Bool) (x : Int) (w : World) (hv : inB x 0 200000 = v) :
    Calls Try.prog 59 #[.int .i64 x] w fun e w' => e = .returned (.bool v) ∧ w = w' := by
  rw [← hv]; exact isTick_any x w

theorem Calls.quiet_of_same' {P : Program} {f : FuncId} {args : Array Value} {w : World} {n : Nat} {v : Value}
    (h : Calls P f args (w.drewN n) fun e w' => e = .returned v ∧ w.drewN n = w') : Calls P f args (w.drewN n) fun e w'' => e = .returned v ∧ ∃ m, w'' = w.drewN m :=
  h.mono fun _ _ ⟨he, hm⟩ => ⟨he, n, hm.symm⟩
theorem below_drewN_trans {w w' : World} {n : Nat} (h : Below (w.drewN n).heap.size (w.drewN n) w') : Below w.heap.size w w' := (below_drewN (Below.refl _ _) n).trans h

/-! ### The functions that check places -/

theorem callFunc_dat1 (args : Array Value) (w : World) : (callFunc 100 args).run Try.prog w = .ok (.enter 100 args) w := by simp [go_sem]
theorem callFunc_rdg1 (args : Array Value) (w : World) : (callFunc 101 args).run Try.prog w = .ok (.enter 101 args) w := by simp [go_sem]

set_option maxRecDepth 100000 in
set_option maxHeartbeats 1000000 in
theorem dat1_any (tb b o cap : Nat) (ds : List Dat) (i : Nat) (hi : i < ds.length) (hcap : ds.length ≤ 140737488355328) (hlen : ds.length ≤ cap) (w : World) (htb : tb < w.heap.size) (hb : b < w.heap.size) (h1 : w.cell? ⟨tb, 0, none⟩ = some (.slice (some ⟨b, o, none⟩) ds.length cap))
    (hat : ∀ i (h : i < ds.length), DatAt w b (o + i * 3) ds[i]) :
    Calls Try.prog 100 #[.int .i64 i, .pointer (some ⟨tb, 0, none⟩)] w fun e w' => e = .returned (.int .i64 (datE ds i)) ∧ Below w.heap.size w w' := by
  obtain ⟨c0, c1, c2⟩ := hat i hi
  obtain ⟨E, hE⟩ : ∃ E, E = datE ds i := ⟨_, rfl⟩
  rw [← hE]
  unfold datE datB at hE
  simp only [List.getD, hi, getElem?_pos, Option.getD_some] at hE
  have hil : (i : Int) < (ds.length : Int) := by omega
  by_cases h0 : i = 0
  · subst h0
    simp only [Nat.zero_mul, Nat.add_zero] at c0 c1 c2
    rw [show ((0 : Nat) : Int) = 0 from rfl] at hil ⊢
    have HE := hid hE; clear hE
    generalize ds[0] = d at *
    by_cases hf : d.from_ = 0
    · have hf' : (d.from_ == 0) = true := by rw [beq_iff_eq]; exact hf
      have HF := hid hf; clear hf hat
      cases hin : insB d.lo d.hi (-5000) 5000
      all_goals
        have HIn := hid hin
        go_enter Try.func100, Try.ntmps100
        go_wp2_with fail
        go_quiet ((go_at_call 59; exact Calls.quiet_of_same' (isTick_val _ _ _ (by assumption))))
        go_wp2_with (go_at_call 86; refine (inside_val _ _ _ _ _ _ (by assumption)).mono ?_; rintro e w' ⟨rfl, hb'⟩)
        go_ret
        exact ⟨by rw [HE.out]; simp [HF.out, HIn.out]; try rfl, below_drewN_trans hb'⟩
    · have hf' : (d.from_ == 0) = false := by rw [beq_eq_false_iff_ne]; exact hf
      have HF := hid hf; clear hf hat
      go_enter Try.func100, Try.ntmps100
      go_wp2_with fail
      go_quiet ((go_at_call 59; exact Calls.quiet_of_same' (isTick_val _ _ _ (by assumption))))
      go_wp2_with (go_at_call 86; refine (inside_val _ _ _ _ _ _ (by assumption)).mono ?_; rintro e w' ⟨rfl, hb'⟩)
      go_ret
      exact ⟨by rw [HE.out]; simp [HF.out]; try rfl, below_drewN (Below.refl _ _) _⟩
  · have hip : i - 1 < ds.length := by omega
    obtain ⟨p0, _, _⟩ := hat (i - 1) hip
    simp only [hip, getElem?_pos, Option.getD_some] at hE
    have HE := hid hE; clear hE hat
    generalize ds[i] = d at *
    generalize ds[i - 1] = p at *
    have hi0 : ((i : Int) == 0) = false := by rw [beq_eq_false_iff_ne]; omega
    have hi1 : 0 < i := by omega
    have hi2 : (i : Int) - 1 = ((i - 1 : Nat) : Int) := by omega
    have hi3 : ((i - 1 : Nat) : Int) < (ds.length : Int) := by omega
    have hw : IntKind.i64.wrap ((i : Int) - 1) = ((i - 1 : Nat) : Int) := by rw [← hi2]; exact IntWalk.i64_in _ (by omega)
    have H0 := hid h0; clear h0
    generalize i - 1 = q at *
    cases ht : inB d.from_ 0 200000
    · have HT := hid ht
      go_enter Try.func100, Try.ntmps100
      go_wp2_with fail
      go_quiet ((go_at_call 59; exact Calls.quiet_of_same' (isTick_val _ _ _ (by assumption))))
      go_wp2_with (go_at_call 86; refine (inside_val _ _ _ _ _ _ (by assumption)).mono ?_; rintro e w' ⟨rfl, hb'⟩)
      go_ret
      exact ⟨by rw [HE.out]; simp [H0.out, HT.out]; try rfl, below_drewN (Below.refl _ _) _⟩
    · have HT := hid ht
      by_cases hlt : p.from_ < d.from_
      · have HL := hid hlt
        cases hin : insB d.lo d.hi (-5000) 5000
        all_goals
          have HIn := hid hin
          go_enter Try.func100, Try.ntmps100
          go_wp2_with fail
          go_quiet ((go_at_call 59; exact Calls.quiet_of_same' (isTick_val _ _ _ (by assumption))))
          go_wp2_with (go_at_call 86; refine (inside_val _ _ _ _ _ _ (by assumption)).mono ?_; rintro e w' ⟨rfl, hb'⟩)
          go_ret
          exact ⟨by rw [HE.out]; simp [H0.out, HT.out, HL.out, HIn.out]; try rfl, below_drewN_trans hb'⟩
      · have HL := hid hlt
        have hlt' : decide (p.from_ < d.from_) = false := by simpa using hlt
        go_enter Try.func100, Try.ntmps100
        go_wp2_with fail
        go_quiet ((go_at_call 59; exact Calls.quiet_of_same' (isTick_val _ _ _ (by assumption))))
        go_wp2_with (go_at_call 86; refine (inside_val _ _ _ _ _ _ (by assumption)).mono ?_; rintro e w' ⟨rfl, hb'⟩)
        go_ret
        exact ⟨by rw [HE.out]; simp [H0.out, HT.out]; exact fun h => by have := HL.out; omega, below_drewN (Below.refl _ _) _⟩
set_option maxRecDepth 100000 in
set_option maxHeartbeats 1000000 in
theorem rdg1_any (tb b o cap : Nat) (rs : List Rdg) (i : Nat) (hi : i < rs.length) (hcap : rs.length ≤ 140737488355328) (hlen : rs.length ≤ cap) (w : World) (_htb : tb < w.heap.size) (_hb : b < w.heap.size) (h1 : w.cell? ⟨tb, 0, none⟩ = some (.slice (some ⟨b, o, none⟩) rs.length cap))
    (hat : ∀ i (h : i < rs.length), RdgAt w b (o + i * 2) rs[i]) :
    Calls Try.prog 101 #[.int .i64 i, .pointer (some ⟨tb, 0, none⟩)] w fun e w' => e = .returned (.int .i64 (rdgE rs i)) ∧ Below w.heap.size w w' := by
  obtain ⟨c0, c1⟩ := hat i hi
  obtain ⟨E, hE⟩ : ∃ E, E = rdgE rs i := ⟨_, rfl⟩
  rw [← hE]
  unfold rdgE rdgB at hE
  simp only [List.getD, hi, getElem?_pos, Option.getD_some] at hE
  have hil : (i : Int) < (rs.length : Int) := by omega
  by_cases h0 : i = 0
  · subst h0
    simp only [Nat.zero_mul, Nat.add_zero] at c0 c1
    rw [show ((0 : Nat) : Int) = 0 from rfl] at hil ⊢
    simp only [decide_true, Bool.true_or, Bool.and_true] at hE
    have HE := hid hE; clear hE hat
    generalize rs[0] = r at *
    cases ht : inB r.tick 0 200000
    · have HT := hid ht
      go_enter Try.func101, Try.ntmps101
      go_wp2_with fail
      go_quiet (fail)
      go_wp2_with (first | (go_at_call 59; refine (isTick_val _ _ _ (by assumption)).mono ?_; rintro e w' ⟨rfl, rfl⟩) | (go_at_call 63; refine (in_val _ _ _ _ _ (by assumption)).mono ?_; rintro e w' ⟨rfl, rfl⟩))
      go_ret
      exact ⟨by rw [HE.out]; simp [HT.out]; try rfl, below_drewN (Below.refl _ _) _⟩
    · have HT := hid ht
      cases hv : inB r.value (-30000) 30000
      all_goals
        have HV := hid hv
        go_enter Try.func101, Try.ntmps101
        go_wp2_with fail
        go_quiet (fail)
        go_wp2_with (first | (go_at_call 59; refine (isTick_val _ _ _ (by assumption)).mono ?_; rintro e w' ⟨rfl, rfl⟩) | (go_at_call 63; refine (in_val _ _ _ _ _ (by assumption)).mono ?_; rintro e w' ⟨rfl, rfl⟩))
        go_ret
        exact ⟨by rw [HE.out]; simp [HT.out, HV.out]; try rfl, below_drewN (Below.refl _ _) _⟩
  · have hip : i - 1 < rs.length := by omega
    obtain ⟨p0, _⟩ := hat (i - 1) hip
    simp only [hip, getElem?_pos, Option.getD_some, h0, decide_false, Bool.false_or] at hE
    have HE := hid hE; clear hE hat
    generalize rs[i] = r at *
    generalize rs[i - 1] = p at *
    have hi0 : ((i : Int) == 0) = false := by rw [beq_eq_false_iff_ne]; omega
    have hi1 : 0 < i := by omega
    have hi2 : (i : Int) - 1 = ((i - 1 : Nat) : Int) := by omega
    have hi3 : ((i - 1 : Nat) : Int) < (rs.length : Int) := by omega
    have hw : IntKind.i64.wrap ((i : Int) - 1) = ((i - 1 : Nat) : Int) := by rw [← hi2]; exact IntWalk.i64_in _ (by omega)
    clear h0
    generalize i - 1 = q at *
    by_cases hlt : p.tick < r.tick
    · have HL := hid hlt
      cases ht : inB r.tick 0 200000
      · have HT := hid ht
        go_enter Try.func101, Try.ntmps101
        go_wp2_with fail
        go_quiet (fail)
        go_wp2_with (first | (go_at_call 59; refine (isTick_val _ _ _ (by assumption)).mono ?_; rintro e w' ⟨rfl, rfl⟩) | (go_at_call 63; refine (in_val _ _ _ _ _ (by assumption)).mono ?_; rintro e w' ⟨rfl, rfl⟩))
        go_ret
        exact ⟨by rw [HE.out]; simp [HT.out]; try rfl, below_drewN (Below.refl _ _) _⟩
      · have HT := hid ht
        cases hv : inB r.value (-30000) 30000
        all_goals
          have HV := hid hv
          go_enter Try.func101, Try.ntmps101
          go_wp2_with fail
          go_quiet (fail)
          go_wp2_with (first | (go_at_call 59; refine (isTick_val _ _ _ (by assumption)).mono ?_; rintro e w' ⟨rfl, rfl⟩) | (go_at_call 63; refine (in_val _ _ _ _ _ (by assumption)).mono ?_; rintro e w' ⟨rfl, rfl⟩))
          go_ret
          exact ⟨by rw [HE.out]; simp [HT.out, HV.out, HL.out]; try rfl, below_drewN (Below.refl _ _) _⟩
    · have HL := hid (show decide (p.tick < r.tick) = false by simpa using hlt)
      have hlt' : decide (p.tick < r.tick) = false := by simpa using hlt
      cases ht : inB r.tick 0 200000
      all_goals
        have HT := hid ht
        go_enter Try.func101, Try.ntmps101
        go_wp2_with fail
        go_quiet (fail)
        go_wp2_with (first | (go_at_call 59; refine (isTick_val _ _ _ (by assumption)).mono ?_; rintro e w' ⟨rfl, rfl⟩) | (go_at_call 63; refine (in_val _ _ _ _ _ (by assumption)).mono ?_; rintro e w' ⟨rfl, rfl⟩))
        go_ret
        exact ⟨by rw [HE.out, HL.out]; simp; try rfl, below_drewN (Below.refl _ _) _⟩
end Go.Proofs.Ytblneiegekdnjaa
