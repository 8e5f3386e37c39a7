/- Gate, part CF: the reference's Force and Falls. -/
import Derived.Test.YtdoklolinbmhpaaCE
import Derived.Test.YtdoklolinbmhpaaWM
set_option linter.all false
namespace Go.Proofs.Ytdoklolinbmhpaa
open Go.RowKit

set_option maxRecDepth 100000 in
set_option maxHeartbeats 4000000 in
theorem rForce_any (g : Gt) (p : GtP) (x o i : Int) (w : World) (hok : GtOk w p g) :
    Calls Try.prog 21 #[.agg (gtL g p).toArray, .int .i64 x, .int .i64 o, .int .i64 i] w fun e w' => e = .returned (.tuple #[.int .i64 (forceP g x o i).1, .int .i64 (forceP g x o i).2.1, .int .i64 (forceP g x o i).2.2]) ∧ Below w.heap.size w w' := by
  have HE := hid (show forceP g x o i = if gtE g ≠ 0 then (0, 0, gtE g) else if inB x 0 g.travel = false ∨ lvB o i = false then (0, 0, 7) else (closeF g x o i, frictF g x o i, 0) from rfl)
  have HGd := hid (fun h => gtGood (g := g) h)
  have HOk := hid hok
  clear hok
  have R1 := range_alloc w (gtL g p) 33
  have B1 : Below w.heap.size w (w.alloc (.cells (gtL g p).toArray 33)) := (Below.refl _ _).alloc (Nat.le_refl _) _
  have S1 : w.heap.size < (w.alloc (.cells (gtL g p).toArray 33)).heap.size := by simp
  go_enter Try.func21, Try.ntmps21
  go_wp2_with (refine wpList_load_mid rfl 33 _ rfl _ 0 rfl (gtL g p) _ R1 Try.underlying33 rfl (by kernel_rfl) ?_)
  refine (rcheck_any g p _ (HOk.out.later B1 (Nat.le_refl _))).mono ?_
  rintro e w1 ⟨rfl, hb⟩
  have R := range_later R1 hb S1
  have BW := hid (bthen B1 hb)
  have S2 : w.heap.size < w1.heap.size := Nat.lt_of_lt_of_le S1 hb.size
  clear R1 B1 S1 hb
  have c2 := range_cell R (show (gtL g p)[2]? = some (.int .i64 g.travel) from rfl)
  obtain ⟨k1, k2, ge, hge⟩ : ∃ a b c, gtP g = (a, b, c) := ⟨_, _, _, rfl⟩
  have hgE : gtE g = ge := by unfold gtE; rw [hge]
  rw [hge]
  rw [hgE] at HE HGd
  clear hge hgE
  dsimp only
  by_cases hx : ge = 0
  · have q : (ge == 0) = true := by simp [hx]
    have HX := hid hx
    have HG := hid (HGd.out hx)
    rw [if_neg (by simp [hx])] at HE
    have q2 : (ge != 0) = false := by simp [hx]
    clear hx HGd
    have q7 : ((7 : Int) != 0) = true := rfl
    cases i1 : inB x 0 g.travel
    · have HZ := hid (show forceP g x o i = (0, 0, 7) by rw [HE.out, if_pos (.inl i1)])
      go_wp2_with (first | (go_at_call 42; refine (rin3 _ _ _ _).mono ?_; rintro e w' ⟨rfl, rfl⟩) | (go_at_call 53; refine (rlevel3 _ _).mono ?_; rintro e w' ⟨rfl, rfl⟩))
      go_ret3
      exact ⟨ret_thr HZ.out, BW.out⟩
    cases i2 : inB o (-20000) 20000
    · have HZ := hid (show forceP g x o i = (0, 0, 7) by rw [HE.out, if_pos (.inr (by unfold lvB; rw [i2]; rfl))])
      go_wp2_with (first | (go_at_call 42; refine (rin3 _ _ _ _).mono ?_; rintro e w' ⟨rfl, rfl⟩) | (go_at_call 53; refine (rlevel3 _ _).mono ?_; rintro e w' ⟨rfl, rfl⟩))
      go_ret3
      exact ⟨ret_thr HZ.out, BW.out⟩
    cases i3 : inB i (-20000) 20000
    · have HZ := hid (show forceP g x o i = (0, 0, 7) by rw [HE.out, if_pos (.inr (by unfold lvB; rw [i2, i3]; rfl))])
      go_wp2_with (first | (go_at_call 42; refine (rin3 _ _ _ _).mono ?_; rintro e w' ⟨rfl, rfl⟩) | (go_at_call 53; refine (rlevel3 _ _).mono ?_; rintro e w' ⟨rfl, rfl⟩))
      go_ret3
      exact ⟨ret_thr HZ.out, BW.out⟩
    · have HZ := hid (show forceP g x o i = (closeF g x o i, frictF g x o i, 0) by rw [HE.out, if_neg (by unfold lvB; rw [i1, i2, i3]; simp)])
      have HFo := hid (rforces_any g p x o i w1 HG.out (inB_iff.1 i1) (inB_iff.1 i2) (inB_iff.1 i3) (HOk.out.own.later BW.out (Nat.le_refl _)))
      clear HE
      generalize closeF g x o i = cf at *
      generalize frictF g x o i = ff at *
      go_wp2_with (first | (go_at_call 42; refine (rin3 _ _ _ _).mono ?_; rintro e w' ⟨rfl, rfl⟩) | (go_at_call 53; refine (rlevel3 _ _).mono ?_; rintro e w' ⟨rfl, rfl⟩) | (refine wpList_load_mid rfl 33 _ rfl _ 0 rfl (gtL g p) _ R Try.underlying33 rfl (by kernel_rfl) ?_))
      refine (HFo.out).mono ?_
      rintro e w3 ⟨rfl, hb3⟩
      have BF := bthen BW.out hb3
      go_wp2_with fail
      go_ret3
      exact ⟨ret_thr HZ.out, BF⟩
  · have q : (ge == 0) = false := by simp [hx]
    have q2 : (ge != 0) = true := by simp [hx]
    have HZ := hid (show forceP g x o i = (0, 0, ge) by rw [HE.out, if_pos hx])
    clear hx HGd HE
    go_wp2_with fail
    go_ret3
    exact ⟨ret_thr HZ.out, BW.out⟩

set_option maxRecDepth 100000 in
set_option maxHeartbeats 4000000 in
theorem rFalls_any (g : Gt) (p : GtP) (o i : Int) (w : World) (hok : GtOk w p g) :
    Calls Try.prog 23 #[.agg (gtL g p).toArray, .int .i64 o, .int .i64 i] w fun e w' => e = .returned (.tuple #[.int .i64 (fallsP g o i).1, .int .i64 (fallsP g o i).2]) ∧ Below w.heap.size w w' := by
  have HE := hid (show fallsP g o i = if gtE g ≠ 0 then (0, gtE g) else if lvB o i = false then (0, 7) else (fallF g o i, 0) from rfl)
  have HGd := hid (fun h => gtGood (g := g) h)
  have HOk := hid hok
  clear hok
  have R1 := range_alloc w (gtL g p) 33
  have B1 : Below w.heap.size w (w.alloc (.cells (gtL g p).toArray 33)) := (Below.refl _ _).alloc (Nat.le_refl _) _
  have S1 : w.heap.size < (w.alloc (.cells (gtL g p).toArray 33)).heap.size := by simp
  go_enter Try.func23, Try.ntmps23
  go_wp2_with (refine wpList_load_mid rfl 33 _ rfl _ 0 rfl (gtL g p) _ R1 Try.underlying33 rfl (by kernel_rfl) ?_)
  refine (rcheck_any g p _ (HOk.out.later B1 (Nat.le_refl _))).mono ?_
  rintro e w1 ⟨rfl, hb⟩
  have R := range_later R1 hb S1
  have BW := hid (bthen B1 hb)
  have S2 : w.heap.size < w1.heap.size := Nat.lt_of_lt_of_le S1 hb.size
  clear R1 B1 S1 hb
  have c2 := range_cell R (show (gtL g p)[2]? = some (.int .i64 g.travel) from rfl)
  obtain ⟨k1, k2, ge, hge⟩ : ∃ a b c, gtP g = (a, b, c) := ⟨_, _, _, rfl⟩
  have hgE : gtE g = ge := by unfold gtE; rw [hge]
  rw [hge]
  rw [hgE] at HE HGd
  clear hge hgE
  dsimp only
  by_cases hx : ge = 0
  · have q : (ge == 0) = true := by simp [hx]
    have HX := hid hx
    have HG := hid (HGd.out hx)
    rw [if_neg (by simp [hx])] at HE
    have q2 : (ge != 0) = false := by simp [hx]
    clear hx HGd
    have q7 : ((7 : Int) != 0) = true := rfl
    cases i2 : inB o (-20000) 20000
    · have HZ := hid (show fallsP g o i = (0, 7) by rw [HE.out, if_pos (by unfold lvB; rw [i2]; rfl)])
      go_wp2_with (first | (go_at_call 42; refine (rin3 _ _ _ _).mono ?_; rintro e w' ⟨rfl, rfl⟩) | (go_at_call 53; refine (rlevel3 _ _).mono ?_; rintro e w' ⟨rfl, rfl⟩))
      go_ret2
      exact ⟨ret_two (by rw [HZ.out]) (by rw [HZ.out]), BW.out⟩
    cases i3 : inB i (-20000) 20000
    · have HZ := hid (show fallsP g o i = (0, 7) by rw [HE.out, if_pos (by unfold lvB; rw [i2, i3]; rfl)])
      go_wp2_with (first | (go_at_call 42; refine (rin3 _ _ _ _).mono ?_; rintro e w' ⟨rfl, rfl⟩) | (go_at_call 53; refine (rlevel3 _ _).mono ?_; rintro e w' ⟨rfl, rfl⟩))
      go_ret2
      exact ⟨ret_two (by rw [HZ.out]) (by rw [HZ.out]), BW.out⟩
    have hT1 := HG.out.travel
    obtain ⟨T, hT⟩ : ∃ T : Nat, g.travel = (T : Int) := ⟨g.travel.toNat, by omega⟩
    obtain ⟨f, hf⟩ : ∃ f : Nat → Bool, f = fun k : Nat => decide (closeF g k o i ≤ frictF g k o i) := ⟨_, rfl⟩
    have HFa := hid (show fallF g o i = idxP f 0 T by unfold fallF; rw [hT, hf]; rfl)
    have HFd := hid (fun k : Nat => show f k = decide (closeF g k o i ≤ frictF g k o i) by rw [hf])
    replace HE := hid (show fallsP g o i = (idxP f 0 T, 0) by rw [HE.out, if_neg (by unfold lvB; rw [i2, i3]; simp), HFa.out])
    have HO := hid (inB_iff.1 i2)
    have HI := hid (inB_iff.1 i3)
    have HT := hid hT
    have hT2 : T ≤ 5000 := by omega
    rw [hT] at c2
    clear hf hT1 hT HFa
    go_wp2_with (first | (go_at_call 42; refine (rin3 _ _ _ _).mono ?_; rintro e w' ⟨rfl, rfl⟩) | (go_at_call 53; refine (rlevel3 _ _).mono ?_; rintro e w' ⟨rfl, rfl⟩))
    have HR := hid R
    clear R c2 q
    go_loopw [11] (fun j wr => ∃ k : Nat, k ≤ T ∧ j = .int .i64 k ∧ Hid (idxP f 0 T = idxP f k (T - k)) ∧ Hid (Below w1.heap.size w1 wr)) (fun j _ => T - (intOf j).toNat)
    case atStart => exact ⟨0, Nat.zero_le _, rfl, hid (by simp), hid (Below.refl _ _)⟩
    case round =>
      obtain ⟨k, hk, rfl, hi, hbw⟩ := hrel
      have R := range_later HR.out hbw.out S2
      have c2 : wr.cell? ⟨w.heap.size, 2, none⟩ = some (.int .i64 (T : Int)) := by rw [← HT.out]; exact range_cell R rfl
      have BX := hid (bthen BW.out hbw.out)
      by_cases hlt : k < T
      · have hkI : (k : Int) < (T : Int) := by omega
        have HY := hid (fun he => idxP_yes (f := f) hlt he)
        have HN := hid (fun he => idxP_no (f := f) hlt he)
        have HFk := hid (HFd.out k)
        have HFo := hid (rforces_any g p k o i wr HG.out (by have := HT.out; omega) HO.out HI.out (HOk.out.own.later BX.out (Nat.le_refl _)))
        have vk : IntKind.i64.wrap ((k : Int) + 1) = ((k + 1 : Nat) : Int) := by rw [IntWalk.i64_in _ (by omega)]; omega
        generalize closeF g k o i = cf at *
        generalize frictF g k o i = ff at *
        generalize f k = y at *
        go_wp2_with (refine wpList_load_mid rfl 33 _ rfl _ 0 rfl (gtL g p) _ R Try.underlying33 rfl (by kernel_rfl) ?_)
        refine (HFo.out).mono ?_
        rintro e w3 ⟨rfl, hb3⟩
        have BF := bthen BX.out hb3
        have BN := hid (bthen hbw.out hb3)
        clear R c2 hbw
        by_cases hc : cf ≤ ff
        · have hcb : decide (cf ≤ ff) = true := by simpa using hc
          have HZ := hid (show fallsP g o i = ((k : Int), 0) by rw [HE.out, hi.out, HY.out (by rw [HFk.out]; exact hcb)])
          go_wp2_with fail
          go_ret2
          exact ⟨ret_two (by rw [HZ.out]) (by rw [HZ.out]), BF⟩
        · have hcb : decide (cf ≤ ff) = false := by simpa using hc
          have HZ := hid (hi.out.trans (HN.out (by rw [HFk.out]; exact hcb)))
          have hc2 : ff < cf := by omega
          clear hc
          go_wp2_with fail
          exact ⟨⟨k + 1, by omega, by go_num, HZ, BN⟩, by simp [intOf]; omega⟩
      · obtain rfl : k = T := by omega
        have hjj : ¬ ((k : Int) < (k : Int)) := by omega
        have HZ := hid (show fallsP g o i = (-1, 0) by rw [HE.out, hi.out, Nat.sub_self]; rfl)
        go_wp2_with fail
        go_ret2
        exact ⟨ret_two (by rw [HZ.out]) (by rw [HZ.out]), BX.out⟩
  · have q : (ge == 0) = false := by simp [hx]
    have q2 : (ge != 0) = true := by simp [hx]
    have HZ := hid (show fallsP g o i = (0, ge) by rw [HE.out, if_pos hx])
    clear hx HGd HE
    go_wp2_with fail
    go_ret2
    exact ⟨ret_two (by rw [HZ.out]) (by rw [HZ.out]), BW.out⟩
end Go.Proofs.Ytdoklolinbmhpaa
