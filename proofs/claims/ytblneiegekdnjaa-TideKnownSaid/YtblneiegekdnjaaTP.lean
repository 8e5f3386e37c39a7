/- Tide, part P: Awake. -/
import Derived.Test.YtblneiegekdnjaaTO
set_option linter.all false
namespace Go.Proofs.Ytblneiegekdnjaa
open Go.RowKit

theorem agreeNine (b : Nat) (w : World) :
    Calls Try.prog 34 #[.slice (some ⟨b, 0, none⟩) 9 9, .int .i64 0, .int .i64 0] w fun e w' => e = .returned (.tuple #[.int .i64 0, .slice none 0 0, .int .i64 3]) ∧ Below w.heap.size w w' := by
  go_enter Try.func34, Try.ntmps34
  go_wp2_with (go_at_call 74; refine (askNine _ _).mono ?_; rintro e w' ⟨rfl, hb⟩)
  exact bodyPost_ret (v := .tuple #[.int .i64 0, .slice none 0 0, .int .i64 3]) (by simp [results, Try.results34, go_sem]) rfl ⟨rfl, by assumption⟩

instance decI64 (x : Int) : Decidable (I64 x) := inferInstanceAs (Decidable (_ ∧ _))
/-- The examples' table, and gauge. -/
def exCon : Con := ⟨⟨#[109, 111, 111, 110]⟩, [0, 1000, 0, -1000], 0, 2, 37, 10⟩
def exGau : Gau := ⟨⟨#[112, 105, 101, 114]⟩, 20, 50, [⟨0, 0, 0⟩, ⟨100, 30, 40⟩], [⟨90, 500⟩, ⟨110, 640⟩]⟩

theorem table_any (w : World) :
    Calls Try.prog 39 #[] w fun e w' => ∃ a, e = .returned (.agg #[.int .i64 100, .slice a [exCon].length 1]) ∧ ConsOk w' a 1 [exCon] ∧ Below w.heap.size w w' := by
  go_enter Try.func39, Try.ntmps39
  go_wp2
  refine bodyPost_ret (v := .agg #[.int .i64 100, .slice (some ⟨w.heap.size + 1 + 1, 0, none⟩) 1 1]) (by simp [results, Try.results39, go_sem]) rfl ⟨_, rfl, ?_, by repeat (first | exact Below.refl _ _ | refine Below.alloc ?_ (by simp <;> omega) _ | refine Below.setCell ?_ (by simp <;> omega) _ | refine Below.drew ?_ | refine below_drewN ?_ _)⟩
  refine ⟨by simp, by simp, fun c hc => ?_, .inr ⟨_, _, rfl, by simp, fun i hi => ?_⟩⟩
  · obtain rfl : c = exCon := by simpa using hc
    exact ⟨by decide, by decide, by decide, by decide, by decide, by decide, by decide⟩
  · obtain rfl : i = 0 := by simpa using hi
    refine ⟨some ⟨w.heap.size + 1, 0, none⟩, 4, by simp [go_sem, exCon], by simp [go_sem, exCon], by simp [go_sem, exCon], by simp [go_sem, exCon], by simp [go_sem, exCon], by simp [go_sem, exCon], .inr ⟨_, _, rfl, by simp <;> omega, fun i hi => ?_⟩⟩
    have h4 : i < 4 := hi
    match i, h4 with
    | 0, _ => simp [go_sem, exCon]
    | 1, _ => simp [go_sem, exCon]
    | 2, _ => simp [go_sem, exCon]
    | 3, _ => simp [go_sem, exCon]
theorem gauge_any (w : World) :
    Calls Try.prog 42 #[] w fun e w' => ∃ p, e = .returned (.agg #[.string exGau.name, .int .i64 exGau.err, .int .i64 exGau.rate, .slice p.da exGau.ds.length p.dc, .slice p.ra exGau.rs.length p.rc]) ∧ GauOk w' p exGau ∧ Below w.heap.size w w' := by
  go_enter Try.func42, Try.ntmps42
  go_wp2
  refine bodyPost_ret (v := .agg #[.string exGau.name, .int .i64 20, .int .i64 50, .slice (some ⟨w.heap.size + 1, 0, none⟩) 2 2, .slice (some ⟨w.heap.size + 1 + 1, 0, none⟩) 2 2]) (by simp [results, Try.results42, go_sem, exGau]) rfl ⟨⟨some ⟨w.heap.size + 1, 0, none⟩, 2, some ⟨w.heap.size + 1 + 1, 0, none⟩, 2⟩, rfl, ?_, by repeat (first | exact Below.refl _ _ | refine Below.alloc ?_ (by simp <;> omega) _ | refine Below.setCell ?_ (by simp <;> omega) _ | refine Below.drew ?_ | refine below_drewN ?_ _)⟩
  refine ⟨⟨by decide, by decide, by decide, by simp [exGau], by simp [exGau], by simp [exGau], by simp [exGau], by decide, by decide⟩, .inr ⟨_, _, rfl, by simp <;> omega, fun i hi => ?_⟩, .inr ⟨_, _, rfl, by simp, fun i hi => ?_⟩⟩
  · have h4 : i < 2 := hi
    match i, h4 with
    | 0, _ => exact ⟨by simp [go_sem, exGau], by simp [go_sem, exGau], by simp [go_sem, exGau]⟩
    | 1, _ => exact ⟨by simp [go_sem, exGau], by simp [go_sem, exGau], by simp [go_sem, exGau]⟩
  · have h4 : i < 2 := hi
    match i, h4 with
    | 0, _ => exact ⟨by simp [go_sem, exGau], by simp [go_sem, exGau]⟩
    | 1, _ => exact ⟨by simp [go_sem, exGau], by simp [go_sem, exGau]⟩

theorem ex_level : levelP 100 [exCon] 1 = ((144, 165), 0) := by decide +kernel
theorem ex_says1 : saysP exGau 92 100 = ((380, 620), 0) := by decide +kernel
theorem ex_says2 : saysP exGau 89 89 = ((0, 0), 4) := by decide +kernel

theorem levelEx (a : Option Addr) (w : World) (hok : ConsOk w a 1 [exCon]) :
    Calls Try.prog 23 #[.agg #[.int .i64 100, .slice a [exCon].length 1], .int .i64 1] w
      fun e w' => e = .returned (.tuple #[.agg #[.int .i64 144, .int .i64 165], .int .i64 0]) ∧ Below w.heap.size w w' := by
  have := levelFn_any 100 a 1 [exCon] 1 w hok
  rwa [ex_level] at this
theorem says1Ex (p : GPos) (w : World) (hok : GauOk w p exGau) :
    Calls Try.prog 30 #[.agg #[.string exGau.name, .int .i64 exGau.err, .int .i64 exGau.rate, .slice p.da exGau.ds.length p.dc, .slice p.ra exGau.rs.length p.rc], .int .i64 92, .int .i64 100] w
      fun e w' => e = .returned (.tuple #[.agg #[.int .i64 380, .int .i64 620], .int .i64 0]) ∧ Below w.heap.size w w' := by
  have := saysFn_any exGau p 92 100 w hok
  rwa [ex_says1] at this
theorem says2Ex (p : GPos) (w : World) (hok : GauOk w p exGau) :
    Calls Try.prog 30 #[.agg #[.string exGau.name, .int .i64 exGau.err, .int .i64 exGau.rate, .slice p.da exGau.ds.length p.dc, .slice p.ra exGau.rs.length p.rc], .int .i64 89, .int .i64 89] w
      fun e w' => e = .returned (.tuple #[.agg #[.int .i64 0, .int .i64 0], .int .i64 4]) ∧ Below w.heap.size w w' := by
  have := saysFn_any exGau p 89 89 w hok
  rwa [ex_says2] at this

theorem A.infoGau : (Try.prog.info? 43).map (fun i => (i.zero, i.size, i.bytes)) = some (some (.agg #[.string ⟨#[]⟩, .int .i64 0, .int .i64 0, .slice none 0 0, .slice none 0 0]), 5, 80) := by kernel_rfl

set_option maxRecDepth 100000 in
set_option maxHeartbeats 1000000 in
theorem awake_any (w : World) :
    Calls Try.prog 22 #[] w fun e w' => e = .returned (.bool true) ∧ Below w.heap.size w w' := by
  go_enter Try.func22, Try.ntmps22
  go_wp2_with fail
  refine (table_any _).mono ?_
  rintro e w1 ⟨a, rfl, hok, hb1⟩
  have HO := hid hok; clear hok
  go_wp2_with fail
  refine (levelEx a _ HO.out).mono ?_
  rintro e w2 ⟨rfl, hb2⟩
  clear HO
  go_wp2_with fail
  refine (gauge_any _).mono ?_
  rintro e w3 ⟨p, rfl, hok, hb3⟩
  have HO := hid hok; clear hok
  go_wp2_with fail
  refine (says1Ex p _ HO.out).mono ?_
  rintro e w4 ⟨rfl, hb4⟩
  clear HO
  have s2 : w2.heap.size < w3.heap.size := by have := hb3.size; simp at this; omega
  have a0 : w3.cell? ⟨w2.heap.size, 0, none⟩ = some (.int .i64 144) := (hb3.cell (p := ⟨w2.heap.size, 0, none⟩) (by simp)).trans (by simp [go_sem])
  have a1 : w3.cell? ⟨w2.heap.size, 1, none⟩ = some (.int .i64 165) := (hb3.cell (p := ⟨w2.heap.size, 1, none⟩) (by simp)).trans (by simp [go_sem])
  have a0 := (hb4.cell (p := ⟨w2.heap.size, 0, none⟩) s2).trans a0
  have a1 := (hb4.cell (p := ⟨w2.heap.size, 1, none⟩) s2).trans a1
  have B4 : Below w.heap.size w w4 := (hb1.trans (hb2.mono hb1.size)).trans (Below.trans (Below.trans ((Below.refl _ _).alloc (Nat.le_trans hb1.size hb2.size) _) (hb3.mono (by have := hb1.size; have := hb2.size; simp; omega))) (hb4.mono (by have := hb1.size; have := hb2.size; omega)))
  have s4 : w2.heap.size < w4.heap.size := Nat.lt_of_lt_of_le s2 hb4.size
  have HA0 := hid a0
  have HA1 := hid a1
  clear hb1 hb2 hb3 hb4 a0 a1 s2
  go_wp2_with fail
  refine (gauge_any _).mono ?_
  rintro e w5 ⟨p, rfl, hok, hb5⟩
  have HO := hid hok; clear hok
  go_wp2_with fail
  refine (says2Ex p _ HO.out).mono ?_
  rintro e w6 ⟨rfl, hb6⟩
  clear HO
  have s5 : w4.heap.size < w5.heap.size := by have := hb5.size; simp at this; omega
  have b0 : w5.cell? ⟨w4.heap.size, 0, none⟩ = some (.int .i64 380) := (hb5.cell (p := ⟨w4.heap.size, 0, none⟩) (by simp)).trans (by simp [go_sem])
  have b1 : w5.cell? ⟨w4.heap.size, 1, none⟩ = some (.int .i64 620) := (hb5.cell (p := ⟨w4.heap.size, 1, none⟩) (by simp)).trans (by simp [go_sem])
  have a0 : w5.cell? ⟨w2.heap.size, 0, none⟩ = some (.int .i64 144) := (hb5.cell (p := ⟨w2.heap.size, 0, none⟩) (by simp; omega)).trans ((World.cell?_alloc_lt _ _ _ s4).trans HA0.out)
  have a1 : w5.cell? ⟨w2.heap.size, 1, none⟩ = some (.int .i64 165) := (hb5.cell (p := ⟨w2.heap.size, 1, none⟩) (by simp; omega)).trans ((World.cell?_alloc_lt _ _ _ s4).trans HA1.out)
  have b0 := (hb6.cell (p := ⟨w4.heap.size, 0, none⟩) s5).trans b0
  have b1 := (hb6.cell (p := ⟨w4.heap.size, 1, none⟩) s5).trans b1
  have a0 := (hb6.cell (p := ⟨w2.heap.size, 0, none⟩) (by simp; omega)).trans a0
  have a1 := (hb6.cell (p := ⟨w2.heap.size, 1, none⟩) (by simp; omega)).trans a1
  have B6 : Below w.heap.size w w6 := B4.trans (Below.trans ((Below.refl _ _).alloc B4.size _) ((hb5.mono (by have := B4.size; simp; omega)).trans (hb6.mono (by have := B4.size; omega))))
  have s6 := hb6.size
  clear hb5 hb6 HA0 HA1 B4
  obtain ⟨i0, hi, hz0, hz1, hz2⟩ := info_parts A.infoGau
  have s24 := s4
  have s46 : w4.heap.size < w6.heap.size := Nat.lt_of_lt_of_le s5 s6
  go_wp2_with ((at_make; refine wpList_make_full _ rfl _ _ _ rfl (w6.heap.size + 1) 43 i0 (.agg #[.string ⟨#[]⟩, .int .i64 0, .int .i64 0, .slice none 0 0, .slice none 0 0]) 5 Try.underlying48 hi hz0 hz1 .i64 .i64 _ _ 9 rfl rfl rfl rfl (by rw [hz2]; omega) (by unfold maxLen; omega) (by simp) ?_; intro W2 hown hgrow))
  refine (agreeNine _ W2).mono ?_
  rintro e w7 ⟨rfl, hb7⟩
  have hz : w6.heap.size + 1 ≤ W2.heap.size := by have := (hown.lt _ rfl).2; simp at this; omega
  have K : ∀ b o v, b < w6.heap.size → w6.cell? ⟨b, o, none⟩ = some v → w7.cell? ⟨b, o, none⟩ = some v := fun b o v hlt h => by
    refine (hb7.cell (p := ⟨b, o, none⟩) (by show b < W2.heap.size; omega)).trans ?_
    refine hgrow.cell ((World.cell?_alloc_lt _ _ _ hlt).trans h) (by simp <;> omega)
  have B7 : Below w.heap.size w w7 := B6.trans (Below.trans (((Below.refl _ _).alloc B6.size _).grown hgrow (by have := B6.size; simp; omega) (by intro k e; cases e)) (hb7.mono (by have := B6.size; omega)))
  have c0 := K _ _ _ (Nat.lt_trans s24 s46) a0
  have c1 := K _ _ _ (Nat.lt_trans s24 s46) a1
  have d0 := K _ _ _ s46 b0
  have d1 := K _ _ _ s46 b1
  clear K hb7 hgrow hown a0 a1 b0 b1 B6 hz
  go_wp2_with fail
  exact bodyPost_ret (v := .bool true) (by simp [results, Try.results22, go_sem]) rfl ⟨rfl, B7⟩
end Go.Proofs.Ytblneiegekdnjaa
