/- Gate, part VG: Check. -/
import Derived.Test.YtdoklolinbmhpaaGreatVF
set_option linter.all false
namespace Go.Proofs.YtdoklolinbmhpaaGreat
open Go.RowKit

theorem callFunc_check1 (args : Array Value) (w : World) : (callFunc 91 args).run Tryz.prog w = .ok (.enter 91 args) w := by simp [go_sem]
set_option maxRecDepth 100000 in
set_option maxHeartbeats 1000000 in
theorem check1_any (tb : Nat) (g : Gt) (p : GtP) (w : World) (hwf : GtWf g p) (hown : IntsAt w p.oa g.own) (hss : SensAt w p.sa g.ss) (hr : w.rangeAt tb 0 (gtL g p)) :
    Calls Tryz.prog 91 #[.pointer (some ⟨tb, 0, none⟩)] w fun e w' => e = .returned (.tuple #[.int .i64 0, .int .i64 (headE g)]) ∧ Below w.heap.size w w' := by
  have HWf := hid hwf; have HOwn := hid hown; have HSs := hid hss
  clear hwf hown hss
  go_enter Tryz.func91, Tryz.ntmps91
  go_wp2_with (refine wpList_load_mid rfl 25 _ rfl _ 0 rfl (gtL g p) _ hr Tryz.underlying25 rfl (by kernel_rfl) ?_)
  refine (headError_any g p _ HWf.out.name).mono ?_
  rintro e w' ⟨rfl, hb⟩
  go_wp2_with fail
  go_ret2
  exact ⟨ret_two rfl rfl, hb⟩

theorem callFunc_check2 (args : Array Value) (w : World) : (callFunc 93 args).run Tryz.prog w = .ok (.enter 93 args) w := by simp [go_sem]
set_option maxRecDepth 100000 in
set_option maxHeartbeats 1000000 in
theorem check2_any (tb : Nat) (g : Gt) (p : GtP) (w : World) (hwf : GtWf g p) (hown : IntsAt w p.oa g.own) (hss : SensAt w p.sa g.ss) (hr : w.rangeAt tb 0 (gtL g p)) :
    Calls Tryz.prog 93 #[.pointer (some ⟨tb, 0, none⟩)] w fun e w' => e = .returned (.tuple #[.int .i64 (ownP g).1, .int .i64 ((ownP g).2)]) ∧ Below w.heap.size w w' := by
  have HWf := hid hwf; have HOwn := hid hown; have HSs := hid hss
  clear hwf hown hss
  go_enter Tryz.func93, Tryz.ntmps93
  go_wp2_with (refine wpList_load_mid rfl 25 _ rfl _ 0 rfl (gtL g p) _ hr Tryz.underlying25 rfl (by kernel_rfl) ?_)
  refine (checkOwn_any g p _ HWf.out HOwn.out).mono ?_
  rintro e w' ⟨rfl, hb⟩
  go_wp2_with fail
  go_ret2
  exact ⟨ret_two rfl rfl, hb⟩

theorem callFunc_check3 (args : Array Value) (w : World) : (callFunc 95 args).run Tryz.prog w = .ok (.enter 95 args) w := by simp [go_sem]
set_option maxRecDepth 100000 in
set_option maxHeartbeats 1000000 in
theorem check3_any (tb : Nat) (g : Gt) (p : GtP) (w : World) (hwf : GtWf g p) (hown : IntsAt w p.oa g.own) (hss : SensAt w p.sa g.ss) (hr : w.rangeAt tb 0 (gtL g p)) :
    Calls Tryz.prog 95 #[.pointer (some ⟨tb, 0, none⟩)] w fun e w' => e = .returned (.tuple #[.int .i64 0, .int .i64 (numE g)]) ∧ Below w.heap.size w w' := by
  have HWf := hid hwf; have HOwn := hid hown; have HSs := hid hss
  clear hwf hown hss
  go_enter Tryz.func95, Tryz.ntmps95
  go_wp2_with (refine wpList_load_mid rfl 25 _ rfl _ 0 rfl (gtL g p) _ hr Tryz.underlying25 rfl (by kernel_rfl) ?_)
  refine (numbersErr_any g p _).mono ?_
  rintro e w' ⟨rfl, hb⟩
  go_wp2_with fail
  go_ret2
  exact ⟨ret_two rfl rfl, hb⟩

theorem callFunc_check4 (args : Array Value) (w : World) : (callFunc 97 args).run Tryz.prog w = .ok (.enter 97 args) w := by simp [go_sem]
set_option maxRecDepth 100000 in
set_option maxHeartbeats 1000000 in
theorem check4_any (tb : Nat) (g : Gt) (p : GtP) (w : World) (hwf : GtWf g p) (hown : IntsAt w p.oa g.own) (hss : SensAt w p.sa g.ss) (hr : w.rangeAt tb 0 (gtL g p)) :
    Calls Tryz.prog 97 #[.pointer (some ⟨tb, 0, none⟩)] w fun e w' => e = .returned (.tuple #[.int .i64 (senP g).1, .int .i64 ((senP g).2)]) ∧ Below w.heap.size w w' := by
  have HWf := hid hwf; have HOwn := hid hown; have HSs := hid hss
  clear hwf hown hss
  go_enter Tryz.func97, Tryz.ntmps97
  go_wp2_with (refine wpList_load_mid rfl 25 _ rfl _ 0 rfl (gtL g p) _ hr Tryz.underlying25 rfl (by kernel_rfl) ?_)
  refine (checkSensors_any g p _ HWf.out HSs.out).mono ?_
  rintro e w' ⟨rfl, hb⟩
  go_wp2_with fail
  go_ret2
  exact ⟨ret_two rfl rfl, hb⟩

set_option maxRecDepth 100000 in
set_option maxHeartbeats 2000000 in
theorem check_any (g : Gt) (p : GtP) (w : World) (hok : GtOk w p g) :
    Calls Tryz.prog 60 #[.agg (gtL g p).toArray] w fun e w' => e = .returned (.tuple #[.int .i64 (gtP g).1, .int .i64 (gtP g).2.1, .int .i64 (gtP g).2.2]) ∧ Below w.heap.size w w' := by
  have HP := hid (show gtP g = firstAt 0 [(0, headE g), ownP g, (0, numE g), senP g] from rfl)
  have HOk := hid hok
  clear hok
  go_enter Tryz.func60, Tryz.ntmps60
  go_wp2_with fail
  have R := range_alloc w (gtL g p) 25
  have hsz : ((World.alloc w (.cells (gtL g p).toArray 25)).alloc (.cells #[.func (.func 91) #[] #[.pointer (some ⟨w.heap.size, 0, none⟩)], .func (.func 93) #[] #[.pointer (some ⟨w.heap.size, 0, none⟩)], .func (.func 95) #[] #[.pointer (some ⟨w.heap.size, 0, none⟩)], .func (.func 97) #[] #[.pointer (some ⟨w.heap.size, 0, none⟩)]] 82)).heap.size = w.heap.size + 2 := by simp
  have B2 : Below w.heap.size w ((World.alloc w (.cells (gtL g p).toArray 25)).alloc (.cells #[.func (.func 91) #[] #[.pointer (some ⟨w.heap.size, 0, none⟩)], .func (.func 93) #[] #[.pointer (some ⟨w.heap.size, 0, none⟩)], .func (.func 95) #[] #[.pointer (some ⟨w.heap.size, 0, none⟩)], .func (.func 97) #[] #[.pointer (some ⟨w.heap.size, 0, none⟩)]] 82)) := ((Below.refl _ _).alloc (Nat.le_refl _) _).alloc (by simp) _
  have R2 : ((World.alloc w (.cells (gtL g p).toArray 25)).alloc (.cells #[.func (.func 91) #[] #[.pointer (some ⟨w.heap.size, 0, none⟩)], .func (.func 93) #[] #[.pointer (some ⟨w.heap.size, 0, none⟩)], .func (.func 95) #[] #[.pointer (some ⟨w.heap.size, 0, none⟩)], .func (.func 97) #[] #[.pointer (some ⟨w.heap.size, 0, none⟩)]] 82)).rangeAt w.heap.size 0 (gtL g p) := range_later R ((Below.refl _ _).alloc (Nat.le_refl _) _) (by simp)
  have HR := hid R2
  have hcells : ∀ i, i < 4 → ((World.alloc w (.cells (gtL g p).toArray 25)).alloc (.cells #[.func (.func 91) #[] #[.pointer (some ⟨w.heap.size, 0, none⟩)], .func (.func 93) #[] #[.pointer (some ⟨w.heap.size, 0, none⟩)], .func (.func 95) #[] #[.pointer (some ⟨w.heap.size, 0, none⟩)], .func (.func 97) #[] #[.pointer (some ⟨w.heap.size, 0, none⟩)]] 82)).cell? ⟨w.heap.size + 1, 0 + i, none⟩ = some (.func (.func (match i with | 0 => 91 | 1 => 93 | 2 => 95 | _ => 97)) #[] #[.pointer (some ⟨w.heap.size, 0, none⟩)]) := by
    intro i hi
    match i, hi with
    | 0, _ => simp [go_sem]
    | 1, _ => simp [go_sem]
    | 2, _ => simp [go_sem]
    | 3, _ => simp [go_sem]
  have HC := hid hcells
  clear R R2 hcells
  generalize hW2 : World.alloc (World.alloc w _) _ = W2 at *
  clear hW2
  refine (first_any W2.heap.size W2 [(0, headE g), ownP g, (0, numE g), senP g] (w.heap.size + 1) 0 4 (fun i => match i with | 0 => 91 | 1 => 93 | 2 => 95 | _ => 97) (fun _ => #[.pointer (some ⟨w.heap.size, 0, none⟩)]) W2 (by simp) (Nat.le_refl _) (Below.refl _ _) (by omega) (fun i hi => HC.out i hi) (fun i hi => ?_)).mono ?_
  · have hi' : i < 4 := hi
    have hk : ∀ W, Below W2.heap.size W2 W → IntsAt W p.oa g.own ∧ SensAt W p.sa g.ss ∧ W.rangeAt w.heap.size 0 (gtL g p) := fun W hW => ⟨(HOk.out.own.later B2 (Nat.le_refl _)).later hW (Nat.le_refl _), (HOk.out.ss.later B2 (Nat.le_refl _)).later hW (Nat.le_refl _), range_later HR.out hW (by omega)⟩
    match i, hi' with
    | 0, _ => exact ⟨callFunc_check1, fun W hW => check1_any _ g p W HOk.out.wf (hk W hW).1 (hk W hW).2.1 (hk W hW).2.2⟩
    | 1, _ => exact ⟨callFunc_check2, fun W hW => check2_any _ g p W HOk.out.wf (hk W hW).1 (hk W hW).2.1 (hk W hW).2.2⟩
    | 2, _ => exact ⟨callFunc_check3, fun W hW => check3_any _ g p W HOk.out.wf (hk W hW).1 (hk W hW).2.1 (hk W hW).2.2⟩
    | 3, _ => exact ⟨callFunc_check4, fun W hW => check4_any _ g p W HOk.out.wf (hk W hW).1 (hk W hW).2.1 (hk W hW).2.2⟩
  rintro e w' ⟨rfl, hb⟩
  have hfin := B2.trans (hb.mono (by omega))
  rw [← HP.out]
  obtain ⟨r, hr⟩ : ∃ r, gtP g = r := ⟨_, rfl⟩
  rw [hr]
  have HQ := hid hr
  clear HC HR hsz B2 hb hr
  go_wp2_with fail
  refine bodyPost_ret (v := .tuple #[.int .i64 r.1, .int .i64 r.2.1, .int .i64 r.2.2]) (by simp [results, Tryz.results60, go_sem]) rfl ⟨by rw [HQ.out], hfin⟩

set_option maxRecDepth 100000 in
set_option maxHeartbeats 1000000 in
theorem gateError_any (g : Gt) (p : GtP) (w : World) (hok : GtOk w p g) :
    Calls Tryz.prog 26 #[.agg (gtL g p).toArray] w fun e w' => e = .returned (.int .i64 (gtE g)) ∧ Below w.heap.size w w' := by
  have HOk := hid hok
  clear hok
  have R := hid (range_alloc w (gtL g p) 25)
  go_enter Tryz.func26, Tryz.ntmps26
  go_wp2_with (refine wpList_load_mid rfl 25 _ rfl _ 0 rfl (gtL g p) _ R.out Tryz.underlying25 rfl (by kernel_rfl) ?_)
  refine (check_any g p _ (HOk.out.later ((Below.refl _ _).alloc (Nat.le_refl _) _) (Nat.le_refl _))).mono ?_
  rintro e w' ⟨rfl, hb⟩
  have hfin := ((Below.refl w.heap.size w).alloc (Nat.le_refl _) _).trans (hb.mono (by simp))
  have HE := hid (show gtE g = (gtP g).2.2 from rfl)
  generalize gtP g = r at *
  go_wp2_with fail
  go_ret
  exact ⟨ret_iE (by rw [HE.out]), hfin⟩
end Go.Proofs.YtdoklolinbmhpaaGreat
