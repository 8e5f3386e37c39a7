/- Tide, part L: what a gauge says. -/
import Derived.Test.YtblneiegekdnjaaTK
set_option linter.all false
namespace Go.Proofs.Ytblneiegekdnjaa
open Go.RowKit

/-- A gauge without an error. -/
structure GauGood (g : Gau) : Prop where
  name : nameB g.name.data.toList = true
  err : 0 ≤ g.err ∧ g.err ≤ 5000
  rate : 0 ≤ g.rate ∧ g.rate ≤ 5000
  dlen : 1 ≤ g.ds.length ∧ g.ds.length ≤ 8
  dat : ∀ i (h : i < g.ds.length), (0 ≤ g.ds[i].from_ ∧ g.ds[i].from_ ≤ 200000) ∧ -5000 ≤ g.ds[i].lo ∧ g.ds[i].lo ≤ g.ds[i].hi ∧ g.ds[i].hi ≤ 5000
  rlen : g.rs.length ≤ 60
  rdg : ∀ i (h : i < g.rs.length), (0 ≤ g.rs[i].tick ∧ g.rs[i].tick ≤ 200000) ∧ -30000 ≤ g.rs[i].value ∧ g.rs[i].value ≤ 30000
  asc : ∀ i (h : i + 1 < g.rs.length), g.rs[i].tick < g.rs[i + 1].tick

theorem each_all {f : Nat → Int} {n : Nat} : ∀ {k}, (eachP f k n).2 = 0 → ∀ i, k ≤ i → i < k + n → f i = 0 := by
  induction n with
  | zero => intro k _ i h1 h2; omega
  | succ n ih =>
    intro k h i h1 h2
    unfold eachP at h
    split at h
    · rename_i hf; exact absurd h hf
    · rename_i hf
      by_cases e : i = k
      · subst e; exact Decidable.not_not.1 hf
      · exact ih h i (by omega) (by omega)
theorem gauGood {g : Gau} (h : (gaugeP g).2.2 = 0) : GauGood g := by
  unfold gaugeP at h
  split at h
  · rename_i h1; exact absurd h h1
  rename_i h1
  split at h
  · rename_i h2; exact absurd h h2
  rename_i h2
  split at h
  · rename_i h3; exact absurd h h3
  rename_i h3
  clear h
  have h1 := Decidable.not_not.1 h1
  have h2 := Decidable.not_not.1 h2
  have h3 := Decidable.not_not.1 h3
  unfold headE at h1
  split at h1
  · cases h1
  rename_i hn
  split at h1
  · cases h1
  rename_i her
  simp only [Bool.not_eq_false, Bool.and_eq_true] at her hn
  have he := inB_iff.1 her.1
  have hr := inB_iff.1 her.2
  unfold datsP at h2
  split at h2
  · cases h2
  rename_i hdl
  have hdl := inB_iff.1 (by simpa using hdl)
  unfold rdgsP at h3
  split at h3
  · cases h3
  rename_i hrl
  have hd : ∀ i, i < g.ds.length → datB g.ds i = true := fun i hi => by
    have := each_all h2 i (Nat.zero_le _) (by omega)
    unfold datE at this
    split at this
    · assumption
    · cases this
  have hrd : ∀ i, i < g.rs.length → rdgB g.rs i = true := fun i hi => by
    have := each_all h3 i (Nat.zero_le _) (by omega)
    unfold rdgE at this
    split at this
    · assumption
    · cases this
  refine ⟨hn, he, hr, ⟨by omega, by omega⟩, fun i hi => ?_, by omega, fun i hi => ?_, fun i hi => ?_⟩
  · have := hd i hi
    unfold datB at this
    simp only [List.getD, hi, getElem?_pos, Option.getD_some, Bool.and_eq_true] at this
    obtain ⟨a, b⟩ := this
    refine ⟨?_, insB_iff.1 b⟩
    split at a
    · have := of_decide_eq_true a; omega
    · simp only [Bool.and_eq_true] at a
      exact inB_iff.1 a.1
  · have := hrd i hi
    unfold rdgB at this
    simp only [List.getD, hi, getElem?_pos, Option.getD_some, Bool.and_eq_true] at this
    exact ⟨inB_iff.1 this.1.1, inB_iff.1 this.2⟩
  · have := hrd (i + 1) hi
    unfold rdgB at this
    simp only [List.getD, hi, getElem?_pos, Option.getD_some, Bool.and_eq_true, Nat.add_sub_cancel, show i < g.rs.length by omega] at this
    simpa using this.1.2

/-- The index of the datum of a tick, of the first k. -/
def dIdx (ds : List Dat) (t : Int) : Nat → Nat
  | 0 => 0
  | k + 1 => if (ds.getD k default).from_ ≤ t then k else dIdx ds t k
theorem dIdx_lt (ds : List Dat) (t : Int) : ∀ k, dIdx ds t k < k ∨ dIdx ds t k = 0
  | 0 => .inr rfl
  | k + 1 => by
    unfold dIdx; split
    · exact .inl (Nat.lt_succ_self _)
    · rcases dIdx_lt ds t k with h | h
      · exact .inl (by omega)
      · exact .inr h
def datumOf (g : Gau) (t : Int) : Dat := g.ds.getD (dIdx g.ds t g.ds.length) default

/-! ### More methods -/

theorem common_any (a b c d : Int) (w : World) :
    Calls Try.prog 82 #[.agg #[.int .i64 a, .int .i64 b], .agg #[.int .i64 c, .int .i64 d]] w fun e w' => e = .returned (.agg #[.int .i64 (max a c), .int .i64 (min b d)]) ∧ Below w.heap.size w w' := by
  go_enter Try.func82, Try.ntmps82
  go_wp2_with (go_at_call 109; refine (between_at _ _ _).mono ?_; rintro e w' ⟨rfl, rfl⟩)
  all_goals exact bodyPost_ret (v := .agg #[.int .i64 (max a c), .int .i64 (min b d)]) (by simp [results, Try.results82, go_sem] <;> omega) rfl ⟨rfl, by repeat (first | exact Below.refl _ _ | refine Below.alloc ?_ (by simp <;> omega) _ | refine Below.drew ?_ | refine below_drewN ?_ _)⟩
theorem empty_any (a b : Int) (w : World) :
    Calls Try.prog 83 #[.agg #[.int .i64 a, .int .i64 b]] w fun e w' => e = .returned (.bool (decide (b < a))) ∧ Below w.heap.size w w' := by
  go_enter Try.func83, Try.ntmps83
  go_wp2
  go_ret
  exact ⟨rfl, (Below.refl _ _).alloc (Nat.le_refl _) _⟩
theorem allLevels_any (w : World) :
    Calls Try.prog 102 #[] w fun e w' => e = .returned (.agg #[.int .i64 (-20000), .int .i64 20000]) ∧ Below w.heap.size w w' := by
  go_enter Try.func102, Try.ntmps102
  go_wp2_with (go_at_call 109; refine (between_at _ _ _).mono ?_; rintro e w' ⟨rfl, rfl⟩)
  exact bodyPost_ret (v := .agg #[.int .i64 (-20000), .int .i64 20000]) (by simp [results, Try.results102, go_sem]) rfl ⟨rfl, by repeat (first | exact Below.refl _ _ | refine Below.alloc ?_ (by simp <;> omega) _ | refine Below.drew ?_ | refine below_drewN ?_ _)⟩

set_option maxRecDepth 100000 in
set_option maxHeartbeats 1000000 in
theorem datumAt_any (g : Gau) (p : GPos) (t : Int) (w : World) (hok : GauOk w p g) :
    Calls Try.prog 87 #[.agg #[.string g.name, .int .i64 g.err, .int .i64 g.rate, .slice p.da g.ds.length p.dc, .slice p.ra g.rs.length p.rc], .int .i64 t] w fun e w' => e = .returned (.int .i64 (dIdx g.ds t g.ds.length)) ∧ Below w.heap.size w w' := by
  have hdl := hok.wf.dlen
  have hdc := hok.wf.dcap
  have HH := hid hok; clear hok
  go_enter Try.func87, Try.ntmps87
  go_wp2_with fail
  generalize hW1 : World.alloc w _ = W1
  have B1 : Below w.heap.size w W1 := by rw [← hW1]; exact (Below.refl _ _).alloc (Nat.le_refl _) _
  clear hW1
  go_loopw [5, 6, 7, 11] (fun a _ _ i wr => ∃ k : Nat, k ≤ g.ds.length ∧ i = .int .i64 k ∧ a = .int .i64 (dIdx g.ds t k) ∧ Below w.heap.size w wr) (fun _ _ _ i _ => g.ds.length - (intOf i).toNat)
  case atStart => exact ⟨0, Nat.zero_le _, rfl, rfl, B1⟩
  case round =>
    obtain ⟨k, hk, rfl, rfl, hbw⟩ := hrel
    by_cases hlt : k < g.ds.length
    · rcases HH.out.ds with h0 | ⟨b, o, hda, hs, hc⟩
      · rw [h0] at hlt; simp at hlt
      obtain ⟨c0, c1, c2⟩ := DatAt.later hbw _ _ _ hs (hc k hlt)
      have HD := hid (show dIdx g.ds t (k + 1) = if g.ds[k].from_ ≤ t then k else dIdx g.ds t k by simp [dIdx, List.getD, hlt])
      have hbr := hbw.size
      clear hc
      rw [hda]
      generalize g.ds[k] = d at *
      generalize dIdx g.ds t k = q at *
      by_cases hle : d.from_ ≤ t
      · have HL := hid hle
        go_wp2_with fail
        refine ⟨⟨k + 1, by omega, by go_num, by rw [HD.out, if_pos HL.out], hbw.alloc hbr _⟩, by simp [intOf]; omega⟩
      · have HL := hid hle
        go_wp2_with fail
        refine ⟨⟨k + 1, by omega, by go_num, by rw [HD.out, if_neg (by have := HL.out; omega)], hbw.alloc hbr _⟩, by simp [intOf]; omega⟩
    · obtain rfl : k = g.ds.length := by omega
      go_wp2_with fail
      go_ret
      exact ⟨rfl, hbw⟩

set_option maxRecDepth 100000 in
set_option maxHeartbeats 1000000 in
theorem read_any (g : Gau) (p : GPos) (t v : Int) (w : World) (he : 0 ≤ g.err ∧ g.err ≤ 5000) (hv : -30000 ≤ v ∧ v ≤ 30000) :
    Calls Try.prog 88 #[.agg #[.string g.name, .int .i64 g.err, .int .i64 g.rate, .slice p.da g.ds.length p.dc, .slice p.ra g.rs.length p.rc], .agg #[.int .i64 t, .int .i64 v]] w fun e w' => e = .returned (.agg #[.int .i64 (v - g.err), .int .i64 (v + g.err)]) ∧ Below w.heap.size w w' := by
  have hv1 : Half v := ⟨by omega, by omega⟩
  have he1 : Half g.err := ⟨by omega, by omega⟩
  go_enter Try.func88, Try.ntmps88
  go_wp2_with fail
  generalize hW1 : World.alloc (World.alloc (World.alloc w _) _) _ = W1
  have B1 : Below w.heap.size w W1 := by rw [← hW1]; repeat (first | exact Below.refl _ _ | refine Below.alloc ?_ (by simp <;> omega) _)
  have S1 : w.heap.size + 2 < W1.heap.size := by rw [← hW1]; simp
  have c1 : W1.cell? ⟨w.heap.size, 1, none⟩ = some (.int .i64 g.err) := by rw [← hW1]; simp [go_sem]
  have d1 : W1.cell? ⟨w.heap.size + 1, 1, none⟩ = some (.int .i64 v) := by rw [← hW1]; simp [go_sem]
  have r0 : W1.cell? ⟨w.heap.size + 1 + 1, 0, none⟩ = some (.int .i64 0) := by rw [← hW1]; simp [go_sem]
  have r1 : W1.cell? ⟨w.heap.size + 1 + 1, 1, none⟩ = some (.int .i64 0) := by rw [← hW1]; simp [go_sem]
  have z0 : W1.frozen? ⟨w.heap.size + 1 + 1, 0, none⟩ = false := by rw [← hW1]; simp [go_sem]
  have z1 : W1.frozen? ⟨w.heap.size + 1 + 1, 1, none⟩ = false := by rw [← hW1]; simp [go_sem]
  clear hW1
  have g1 : ∀ X : Later W1.heap.size W1, X.wd.cell? ⟨w.heap.size, 1, none⟩ = some (.int .i64 g.err) := fun X => (X.below.cell (p := ⟨w.heap.size, 1, none⟩) (by simp; omega)).trans c1
  have g2 : ∀ X : Later W1.heap.size W1, X.wd.cell? ⟨w.heap.size + 1, 1, none⟩ = some (.int .i64 v) := fun X => (X.below.cell (p := ⟨w.heap.size + 1, 1, none⟩) (by simp; omega)).trans d1
  refine wp_region_grow_tail W1.heap.size 8 (by kernel_rfl) (by kernel_rfl) ?_
  simp only [List.take_succ_cons, List.take_zero, List.drop_succ_cons, List.drop_zero]
  repeat (go_big_quiet_step ((first | (go_at_call 109; exact later_grow (Nat.le_refl _) (between_any _ _ _)) | (go_at_call 103; exact later_grow (Nat.le_refl _) (wider_any _ _ _ _ hv1 hv1 he1)))))
  refine wpQuiet_nil ?_
  rintro wx ⟨⟨_, hbx⟩, rfl⟩
  have q0 := (hbx.cell (p := ⟨w.heap.size + 1 + 1, 0, none⟩) S1).trans r0
  have q1 := (hbx.cell (p := ⟨w.heap.size + 1 + 1, 1, none⟩) S1).trans r1
  have y0 := (hbx.frozen (p := ⟨w.heap.size + 1 + 1, 0, none⟩) S1).trans z0
  have y1 := (hbx.frozen (p := ⟨w.heap.size + 1 + 1, 1, none⟩) S1).trans z1
  clear g1 g2 r0 r1 z0 z1
  go_wp2_with fail
  refine bodyPost_ret (v := .agg #[.int .i64 (v - g.err), .int .i64 (v + g.err)]) (by simp [results, Try.results88, go_sem, *]) rfl ⟨rfl, ?_⟩
  exact ((B1.trans (hbx.mono (by omega))).setCell (p := ⟨w.heap.size + 1 + 1, 0, none⟩) (by simp; omega) _).setCell (p := ⟨w.heap.size + 1 + 1, 1, none⟩) (by simp; omega) _
end Go.Proofs.Ytblneiegekdnjaa
