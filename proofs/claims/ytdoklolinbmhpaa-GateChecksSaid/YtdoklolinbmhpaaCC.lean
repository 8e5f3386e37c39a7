/- Gate, part CC: the reference's Check. -/
import Derived.Test.YtdoklolinbmhpaaCB
import Derived.OwnWalk
set_option linter.all false
namespace Go.Proofs.Ytdoklolinbmhpaa
open Go.RowKit

theorem gtP_eq (g : Gt) : gtP g = if headE g ≠ 0 then (1, 0, headE g) else if (ownP g).2 ≠ 0 then (2, (ownP g).1, (ownP g).2) else if numE g ≠ 0 then (3, 0, numE g) else if (senP g).2 ≠ 0 then (4, (senP g).1, (senP g).2) else (0, 0, 0) := by
  unfold gtP
  generalize ownP g = x
  generalize senP g = y
  obtain ⟨a, b⟩ := x
  obtain ⟨c, d⟩ := y
  by_cases h1 : headE g = 0
  · by_cases h2 : b = 0
    · by_cases h3 : numE g = 0
      · by_cases h4 : d = 0 <;> simp [firstAt, h1, h2, h3, h4]
      · simp [firstAt, h1, h2, h3]
    · simp [firstAt, h1, h2]
  · simp [firstAt, h1]
theorem ret_thr {a b c : Int} {x : Int × Int × Int} (h : x = (a, b, c)) : Ending.returned (.tuple #[.int .i64 a, .int .i64 b, .int .i64 c]) = Ending.returned (.tuple #[.int .i64 x.1, .int .i64 x.2.1, .int .i64 x.2.2]) := by rw [h]
set_option maxRecDepth 100000 in
set_option maxHeartbeats 16000000 in
theorem rcheck_any (g : Gt) (p : GtP) (w : World) (hok : GtOk w p g) :
    Calls Try.prog 18 #[.agg (gtL g p).toArray] w fun e w' => e = .returned (.tuple #[.int .i64 (gtP g).1, .int .i64 (gtP g).2.1, .int .i64 (gtP g).2.2]) ∧ Below w.heap.size w w' := by
  have HE := hid (gtP_eq g)
  have HHd := hid (show headE g = if nameB g.name.data.toList = false then 6 else if inB g.kind 1 3 = false then 2 else if inB g.travel 1 5000 = false then 7 else 0 from rfl)
  have R := range_alloc w (gtL g p) 33
  have B1 : Below w.heap.size w (w.alloc (.cells (gtL g p).toArray 33)) := (Below.refl _ _).alloc (Nat.le_refl _) _
  have S1 : w.heap.size < (w.alloc (.cells (gtL g p).toArray 33)).heap.size := by simp
  have c0 := range_cell R (show (gtL g p)[0]? = some (.string g.name) from rfl)
  have c1 := range_cell R (show (gtL g p)[1]? = some (.int .i64 g.kind) from rfl)
  have c2 := range_cell R (show (gtL g p)[2]? = some (.int .i64 g.travel) from rfl)
  have HNm := hid hok.wf.name
  have HOk := hid (hok.later B1 (Nat.le_refl _))
  clear hok
  go_enter Try.func18, Try.ntmps18
  cases n1 : nameB g.name.data.toList
  · have HG := hid (show gtP g = (1, 0, 6) by rw [HE.out, HHd.out, n1]; rfl)
    go_wp2_with (first | (go_at_call 42; refine (rin3 _ _ _ _).mono ?_; rintro e w' ⟨rfl, rfl⟩) | (go_at_call 53; refine (rlevel3 _ _).mono ?_; rintro e w' ⟨rfl, rfl⟩) | (go_at_call 55; refine (rforce3 _ _).mono ?_; rintro e w' ⟨rfl, rfl⟩) | (go_at_call 54; refine (rrate3 _ _).mono ?_; rintro e w' ⟨rfl, rfl⟩) | (go_at_call 56; refine (roil3 _ _).mono ?_; rintro e w' ⟨rfl, rfl⟩) | (go_at_call 51; refine (rname_any _ _ HNm.out).mono ?_; rintro e w' ⟨rfl, rfl⟩))
    go_ret3
    exact ⟨ret_thr HG.out, B1⟩
  · rw [n1, if_neg (by simp)] at HHd
    cases n2 : inB g.kind 1 3
    · have HG := hid (show gtP g = (1, 0, 2) by rw [HE.out, HHd.out, n2]; rfl)
      go_wp2_with (first | (go_at_call 42; refine (rin3 _ _ _ _).mono ?_; rintro e w' ⟨rfl, rfl⟩) | (go_at_call 53; refine (rlevel3 _ _).mono ?_; rintro e w' ⟨rfl, rfl⟩) | (go_at_call 55; refine (rforce3 _ _).mono ?_; rintro e w' ⟨rfl, rfl⟩) | (go_at_call 54; refine (rrate3 _ _).mono ?_; rintro e w' ⟨rfl, rfl⟩) | (go_at_call 56; refine (roil3 _ _).mono ?_; rintro e w' ⟨rfl, rfl⟩) | (go_at_call 51; refine (rname_any _ _ HNm.out).mono ?_; rintro e w' ⟨rfl, rfl⟩))
      go_ret3
      exact ⟨ret_thr HG.out, B1⟩
    · rw [n2, if_neg (by simp)] at HHd
      cases n3 : inB g.travel 1 5000
      · have HG := hid (show gtP g = (1, 0, 7) by rw [HE.out, HHd.out, n3]; rfl)
        go_wp2_with (first | (go_at_call 42; refine (rin3 _ _ _ _).mono ?_; rintro e w' ⟨rfl, rfl⟩) | (go_at_call 53; refine (rlevel3 _ _).mono ?_; rintro e w' ⟨rfl, rfl⟩) | (go_at_call 55; refine (rforce3 _ _).mono ?_; rintro e w' ⟨rfl, rfl⟩) | (go_at_call 54; refine (rrate3 _ _).mono ?_; rintro e w' ⟨rfl, rfl⟩) | (go_at_call 56; refine (roil3 _ _).mono ?_; rintro e w' ⟨rfl, rfl⟩) | (go_at_call 51; refine (rname_any _ _ HNm.out).mono ?_; rintro e w' ⟨rfl, rfl⟩))
        go_ret3
        exact ⟨ret_thr HG.out, B1⟩
      · rw [n3, if_neg (by simp)] at HHd
        rw [HHd.out, if_neg (by simp)] at HE
        have hkd := inB_iff.1 n2
        have htr := inB_iff.1 n3
        have HKd := hid hkd
        have HTr := hid htr
        clear hkd htr
        go_wp2_with (first | (go_at_call 42; refine (rin3 _ _ _ _).mono ?_; rintro e w' ⟨rfl, rfl⟩) | (go_at_call 53; refine (rlevel3 _ _).mono ?_; rintro e w' ⟨rfl, rfl⟩) | (go_at_call 55; refine (rforce3 _ _).mono ?_; rintro e w' ⟨rfl, rfl⟩) | (go_at_call 54; refine (rrate3 _ _).mono ?_; rintro e w' ⟨rfl, rfl⟩) | (go_at_call 56; refine (roil3 _ _).mono ?_; rintro e w' ⟨rfl, rfl⟩) | (go_at_call 51; refine (rname_any _ _ HNm.out).mono ?_; rintro e w' ⟨rfl, rfl⟩) | (refine wpList_load_mid rfl 33 _ rfl _ 0 rfl (gtL g p) _ (R) Try.underlying33 rfl (by kernel_rfl) ?_))
        generalize hW1 : World.alloc w _ = W1 at *
        clear hW1
        refine (rown_any g p W1 HOk.out HKd.out).mono ?_
        rintro e w2 ⟨rfl, hb2⟩
        have R2 := range_later R hb2 S1
        have BW := hid (bthen B1 hb2)
        have HOk2 := hid (HOk.out.later hb2 (Nat.le_refl _))
        clear c0 c1 c2 R hb2 HOk B1 S1 n1 n2 n3 HHd
        generalize ownP g = q at *
        obtain ⟨qa, qe⟩ := q
        dsimp only at HE ⊢
        by_cases hq : qe = 0
        · have z : (qe != 0) = false := by simp [hq]
          rw [if_neg (by simp [hq])] at HE
          clear hq
          have c2 := range_cell R2 (show (gtL g p)[2]? = some (.int .i64 g.travel) from rfl)
          have c4 := range_cell R2 (show (gtL g p)[4]? = some (.int .i64 g.open_) from rfl)
          have c5 := range_cell R2 (show (gtL g p)[5]? = some (.int .i64 g.shut) from rfl)
          have c6 := range_cell R2 (show (gtL g p)[6]? = some (.int .i64 g.height) from rfl)
          have c7 := range_cell R2 (show (gtL g p)[7]? = some (.int .i64 g.float) from rfl)
          have c9 := range_cell R2 (show (gtL g p)[9]? = some (.int .i64 g.slide) from rfl)
          have c8 := range_cell R2 (show (gtL g p)[8]? = some (.int .i64 g.push) from rfl)
          have c10 := range_cell R2 (show (gtL g p)[10]? = some (.int .i64 g.sealN) from rfl)
          have c11 := range_cell R2 (show (gtL g p)[11]? = some (.int .i64 g.drive) from rfl)
          have c12 := range_cell R2 (show (gtL g p)[12]? = some (.int .i64 g.brake) from rfl)
          have c13 := range_cell R2 (show (gtL g p)[13]? = some (.int .i64 g.speed) from rfl)
          have c14 := range_cell R2 (show (gtL g p)[14]? = some (.int .i64 g.gravity) from rfl)
          have c15 := range_cell R2 (show (gtL g p)[15]? = some (.int .i64 g.use) from rfl)
          have c16 := range_cell R2 (show (gtL g p)[16]? = some (.int .i64 g.pump) from rfl)
          have c17 := range_cell R2 (show (gtL g p)[17]? = some (.int .i64 g.cap) from rfl)
          have c18 := range_cell R2 (show (gtL g p)[18]? = some (.int .i64 g.slack) from rfl)
          have v1 : IntKind.i64.wrap (g.travel - 1) = g.travel - 1 := IntWalk.i64_in _ (by have := HTr.out; omega)
          have v2 : IntKind.i64.wrap ((g.travel - 1).tdiv 2) = (g.travel - 1).tdiv 2 := by have := half_wrap (g.travel - 1); rw [v1] at this; exact this
          have HNum := hid (show numE g = if inB g.open_ (-20000) 20000 = true ∧ inB g.shut (-20000) 20000 = true ∧ inB g.height 1 30000 = true ∧ inB g.float 0 10000 = true ∧ inB g.slide 0 10000 = true ∧ inB g.push (-10000) 10000 = true ∧ inB g.sealN 0 200000 = true ∧ inB g.drive 0 200000 = true ∧ inB g.brake 0 200000 = true ∧ inB g.speed 1 100 = true ∧ inB g.gravity 1 100 = true ∧ inB g.use 0 100000 = true ∧ inB g.pump 0 100000 = true ∧ inB g.cap 0 100000 = true ∧ inB g.slack 0 ((g.travel - 1).tdiv 2) = true then 0 else 7 by
            unfold numE numB
            rw [v1]
            simp only [Bool.and_eq_true, and_assoc])
          cases i0 : inB g.open_ (-20000) 20000
          · have hN : numE g = 7 := HNum.out.trans (if_neg (by rintro ⟨h0, h1, h2, h3, h4, h5, h6, h7, h8, h9, h10, h11, h12, h13, h14⟩; rw [i0] at h0; cases h0))
            have HG := hid (show gtP g = (3, 0, 7) by rw [HE.out, hN]; rfl)
            clear hN
            clear R2 HNum HE
            go_wp2_with (first | (go_at_call 42; refine (rin3 _ _ _ _).mono ?_; rintro e w' ⟨rfl, rfl⟩) | (go_at_call 53; refine (rlevel3 _ _).mono ?_; rintro e w' ⟨rfl, rfl⟩) | (go_at_call 55; refine (rforce3 _ _).mono ?_; rintro e w' ⟨rfl, rfl⟩) | (go_at_call 54; refine (rrate3 _ _).mono ?_; rintro e w' ⟨rfl, rfl⟩) | (go_at_call 56; refine (roil3 _ _).mono ?_; rintro e w' ⟨rfl, rfl⟩) | (go_at_call 51; refine (rname_any _ _ HNm.out).mono ?_; rintro e w' ⟨rfl, rfl⟩))
            go_ret3
            exact ⟨ret_thr HG.out, BW.out⟩
          · skip
            cases i1 : inB g.shut (-20000) 20000
            · have hN : numE g = 7 := HNum.out.trans (if_neg (by rintro ⟨h0, h1, h2, h3, h4, h5, h6, h7, h8, h9, h10, h11, h12, h13, h14⟩; rw [i1] at h1; cases h1))
              have HG := hid (show gtP g = (3, 0, 7) by rw [HE.out, hN]; rfl)
              clear hN
              clear R2 HNum HE
              go_wp2_with (first | (go_at_call 42; refine (rin3 _ _ _ _).mono ?_; rintro e w' ⟨rfl, rfl⟩) | (go_at_call 53; refine (rlevel3 _ _).mono ?_; rintro e w' ⟨rfl, rfl⟩) | (go_at_call 55; refine (rforce3 _ _).mono ?_; rintro e w' ⟨rfl, rfl⟩) | (go_at_call 54; refine (rrate3 _ _).mono ?_; rintro e w' ⟨rfl, rfl⟩) | (go_at_call 56; refine (roil3 _ _).mono ?_; rintro e w' ⟨rfl, rfl⟩) | (go_at_call 51; refine (rname_any _ _ HNm.out).mono ?_; rintro e w' ⟨rfl, rfl⟩))
              go_ret3
              exact ⟨ret_thr HG.out, BW.out⟩
            · skip
              cases i2 : inB g.height 1 30000
              · have hN : numE g = 7 := HNum.out.trans (if_neg (by rintro ⟨h0, h1, h2, h3, h4, h5, h6, h7, h8, h9, h10, h11, h12, h13, h14⟩; rw [i2] at h2; cases h2))
                have HG := hid (show gtP g = (3, 0, 7) by rw [HE.out, hN]; rfl)
                clear hN
                clear R2 HNum HE
                go_wp2_with (first | (go_at_call 42; refine (rin3 _ _ _ _).mono ?_; rintro e w' ⟨rfl, rfl⟩) | (go_at_call 53; refine (rlevel3 _ _).mono ?_; rintro e w' ⟨rfl, rfl⟩) | (go_at_call 55; refine (rforce3 _ _).mono ?_; rintro e w' ⟨rfl, rfl⟩) | (go_at_call 54; refine (rrate3 _ _).mono ?_; rintro e w' ⟨rfl, rfl⟩) | (go_at_call 56; refine (roil3 _ _).mono ?_; rintro e w' ⟨rfl, rfl⟩) | (go_at_call 51; refine (rname_any _ _ HNm.out).mono ?_; rintro e w' ⟨rfl, rfl⟩))
                go_ret3
                exact ⟨ret_thr HG.out, BW.out⟩
              · skip
                cases i3 : inB g.float 0 10000
                · have hN : numE g = 7 := HNum.out.trans (if_neg (by rintro ⟨h0, h1, h2, h3, h4, h5, h6, h7, h8, h9, h10, h11, h12, h13, h14⟩; rw [i3] at h3; cases h3))
                  have HG := hid (show gtP g = (3, 0, 7) by rw [HE.out, hN]; rfl)
                  clear hN
                  clear R2 HNum HE
                  go_wp2_with (first | (go_at_call 42; refine (rin3 _ _ _ _).mono ?_; rintro e w' ⟨rfl, rfl⟩) | (go_at_call 53; refine (rlevel3 _ _).mono ?_; rintro e w' ⟨rfl, rfl⟩) | (go_at_call 55; refine (rforce3 _ _).mono ?_; rintro e w' ⟨rfl, rfl⟩) | (go_at_call 54; refine (rrate3 _ _).mono ?_; rintro e w' ⟨rfl, rfl⟩) | (go_at_call 56; refine (roil3 _ _).mono ?_; rintro e w' ⟨rfl, rfl⟩) | (go_at_call 51; refine (rname_any _ _ HNm.out).mono ?_; rintro e w' ⟨rfl, rfl⟩))
                  go_ret3
                  exact ⟨ret_thr HG.out, BW.out⟩
                · skip
                  cases i4 : inB g.slide 0 10000
                  · have hN : numE g = 7 := HNum.out.trans (if_neg (by rintro ⟨h0, h1, h2, h3, h4, h5, h6, h7, h8, h9, h10, h11, h12, h13, h14⟩; rw [i4] at h4; cases h4))
                    have HG := hid (show gtP g = (3, 0, 7) by rw [HE.out, hN]; rfl)
                    clear hN
                    clear R2 HNum HE
                    go_wp2_with (first | (go_at_call 42; refine (rin3 _ _ _ _).mono ?_; rintro e w' ⟨rfl, rfl⟩) | (go_at_call 53; refine (rlevel3 _ _).mono ?_; rintro e w' ⟨rfl, rfl⟩) | (go_at_call 55; refine (rforce3 _ _).mono ?_; rintro e w' ⟨rfl, rfl⟩) | (go_at_call 54; refine (rrate3 _ _).mono ?_; rintro e w' ⟨rfl, rfl⟩) | (go_at_call 56; refine (roil3 _ _).mono ?_; rintro e w' ⟨rfl, rfl⟩) | (go_at_call 51; refine (rname_any _ _ HNm.out).mono ?_; rintro e w' ⟨rfl, rfl⟩))
                    go_ret3
                    exact ⟨ret_thr HG.out, BW.out⟩
                  · skip
                    cases i5 : inB g.push (-10000) 10000
                    · have hN : numE g = 7 := HNum.out.trans (if_neg (by rintro ⟨h0, h1, h2, h3, h4, h5, h6, h7, h8, h9, h10, h11, h12, h13, h14⟩; rw [i5] at h5; cases h5))
                      have HG := hid (show gtP g = (3, 0, 7) by rw [HE.out, hN]; rfl)
                      clear hN
                      clear R2 HNum HE
                      go_wp2_with (first | (go_at_call 42; refine (rin3 _ _ _ _).mono ?_; rintro e w' ⟨rfl, rfl⟩) | (go_at_call 53; refine (rlevel3 _ _).mono ?_; rintro e w' ⟨rfl, rfl⟩) | (go_at_call 55; refine (rforce3 _ _).mono ?_; rintro e w' ⟨rfl, rfl⟩) | (go_at_call 54; refine (rrate3 _ _).mono ?_; rintro e w' ⟨rfl, rfl⟩) | (go_at_call 56; refine (roil3 _ _).mono ?_; rintro e w' ⟨rfl, rfl⟩) | (go_at_call 51; refine (rname_any _ _ HNm.out).mono ?_; rintro e w' ⟨rfl, rfl⟩))
                      go_ret3
                      exact ⟨ret_thr HG.out, BW.out⟩
                    · skip
                      cases i6 : inB g.sealN 0 200000
                      · have hN : numE g = 7 := HNum.out.trans (if_neg (by rintro ⟨h0, h1, h2, h3, h4, h5, h6, h7, h8, h9, h10, h11, h12, h13, h14⟩; rw [i6] at h6; cases h6))
                        have HG := hid (show gtP g = (3, 0, 7) by rw [HE.out, hN]; rfl)
                        clear hN
                        clear R2 HNum HE
                        go_wp2_with (first | (go_at_call 42; refine (rin3 _ _ _ _).mono ?_; rintro e w' ⟨rfl, rfl⟩) | (go_at_call 53; refine (rlevel3 _ _).mono ?_; rintro e w' ⟨rfl, rfl⟩) | (go_at_call 55; refine (rforce3 _ _).mono ?_; rintro e w' ⟨rfl, rfl⟩) | (go_at_call 54; refine (rrate3 _ _).mono ?_; rintro e w' ⟨rfl, rfl⟩) | (go_at_call 56; refine (roil3 _ _).mono ?_; rintro e w' ⟨rfl, rfl⟩) | (go_at_call 51; refine (rname_any _ _ HNm.out).mono ?_; rintro e w' ⟨rfl, rfl⟩))
                        go_ret3
                        exact ⟨ret_thr HG.out, BW.out⟩
                      · skip
                        cases i7 : inB g.drive 0 200000
                        · have hN : numE g = 7 := HNum.out.trans (if_neg (by rintro ⟨h0, h1, h2, h3, h4, h5, h6, h7, h8, h9, h10, h11, h12, h13, h14⟩; rw [i7] at h7; cases h7))
                          have HG := hid (show gtP g = (3, 0, 7) by rw [HE.out, hN]; rfl)
                          clear hN
                          clear R2 HNum HE
                          go_wp2_with (first | (go_at_call 42; refine (rin3 _ _ _ _).mono ?_; rintro e w' ⟨rfl, rfl⟩) | (go_at_call 53; refine (rlevel3 _ _).mono ?_; rintro e w' ⟨rfl, rfl⟩) | (go_at_call 55; refine (rforce3 _ _).mono ?_; rintro e w' ⟨rfl, rfl⟩) | (go_at_call 54; refine (rrate3 _ _).mono ?_; rintro e w' ⟨rfl, rfl⟩) | (go_at_call 56; refine (roil3 _ _).mono ?_; rintro e w' ⟨rfl, rfl⟩) | (go_at_call 51; refine (rname_any _ _ HNm.out).mono ?_; rintro e w' ⟨rfl, rfl⟩))
                          go_ret3
                          exact ⟨ret_thr HG.out, BW.out⟩
                        · skip
                          cases i8 : inB g.brake 0 200000
                          · have hN : numE g = 7 := HNum.out.trans (if_neg (by rintro ⟨h0, h1, h2, h3, h4, h5, h6, h7, h8, h9, h10, h11, h12, h13, h14⟩; rw [i8] at h8; cases h8))
                            have HG := hid (show gtP g = (3, 0, 7) by rw [HE.out, hN]; rfl)
                            clear hN
                            clear R2 HNum HE
                            go_wp2_with (first | (go_at_call 42; refine (rin3 _ _ _ _).mono ?_; rintro e w' ⟨rfl, rfl⟩) | (go_at_call 53; refine (rlevel3 _ _).mono ?_; rintro e w' ⟨rfl, rfl⟩) | (go_at_call 55; refine (rforce3 _ _).mono ?_; rintro e w' ⟨rfl, rfl⟩) | (go_at_call 54; refine (rrate3 _ _).mono ?_; rintro e w' ⟨rfl, rfl⟩) | (go_at_call 56; refine (roil3 _ _).mono ?_; rintro e w' ⟨rfl, rfl⟩) | (go_at_call 51; refine (rname_any _ _ HNm.out).mono ?_; rintro e w' ⟨rfl, rfl⟩))
                            go_ret3
                            exact ⟨ret_thr HG.out, BW.out⟩
                          · skip
                            cases i9 : inB g.speed 1 100
                            · have hN : numE g = 7 := HNum.out.trans (if_neg (by rintro ⟨h0, h1, h2, h3, h4, h5, h6, h7, h8, h9, h10, h11, h12, h13, h14⟩; rw [i9] at h9; cases h9))
                              have HG := hid (show gtP g = (3, 0, 7) by rw [HE.out, hN]; rfl)
                              clear hN
                              clear R2 HNum HE
                              go_wp2_with (first | (go_at_call 42; refine (rin3 _ _ _ _).mono ?_; rintro e w' ⟨rfl, rfl⟩) | (go_at_call 53; refine (rlevel3 _ _).mono ?_; rintro e w' ⟨rfl, rfl⟩) | (go_at_call 55; refine (rforce3 _ _).mono ?_; rintro e w' ⟨rfl, rfl⟩) | (go_at_call 54; refine (rrate3 _ _).mono ?_; rintro e w' ⟨rfl, rfl⟩) | (go_at_call 56; refine (roil3 _ _).mono ?_; rintro e w' ⟨rfl, rfl⟩) | (go_at_call 51; refine (rname_any _ _ HNm.out).mono ?_; rintro e w' ⟨rfl, rfl⟩))
                              go_ret3
                              exact ⟨ret_thr HG.out, BW.out⟩
                            · skip
                              cases i10 : inB g.gravity 1 100
                              · have hN : numE g = 7 := HNum.out.trans (if_neg (by rintro ⟨h0, h1, h2, h3, h4, h5, h6, h7, h8, h9, h10, h11, h12, h13, h14⟩; rw [i10] at h10; cases h10))
                                have HG := hid (show gtP g = (3, 0, 7) by rw [HE.out, hN]; rfl)
                                clear hN
                                clear R2 HNum HE
                                go_wp2_with (first | (go_at_call 42; refine (rin3 _ _ _ _).mono ?_; rintro e w' ⟨rfl, rfl⟩) | (go_at_call 53; refine (rlevel3 _ _).mono ?_; rintro e w' ⟨rfl, rfl⟩) | (go_at_call 55; refine (rforce3 _ _).mono ?_; rintro e w' ⟨rfl, rfl⟩) | (go_at_call 54; refine (rrate3 _ _).mono ?_; rintro e w' ⟨rfl, rfl⟩) | (go_at_call 56; refine (roil3 _ _).mono ?_; rintro e w' ⟨rfl, rfl⟩) | (go_at_call 51; refine (rname_any _ _ HNm.out).mono ?_; rintro e w' ⟨rfl, rfl⟩))
                                go_ret3
                                exact ⟨ret_thr HG.out, BW.out⟩
                              · skip
                                cases i11 : inB g.use 0 100000
                                · have hN : numE g = 7 := HNum.out.trans (if_neg (by rintro ⟨h0, h1, h2, h3, h4, h5, h6, h7, h8, h9, h10, h11, h12, h13, h14⟩; rw [i11] at h11; cases h11))
                                  have HG := hid (show gtP g = (3, 0, 7) by rw [HE.out, hN]; rfl)
                                  clear hN
                                  clear R2 HNum HE
                                  go_wp2_with (first | (go_at_call 42; refine (rin3 _ _ _ _).mono ?_; rintro e w' ⟨rfl, rfl⟩) | (go_at_call 53; refine (rlevel3 _ _).mono ?_; rintro e w' ⟨rfl, rfl⟩) | (go_at_call 55; refine (rforce3 _ _).mono ?_; rintro e w' ⟨rfl, rfl⟩) | (go_at_call 54; refine (rrate3 _ _).mono ?_; rintro e w' ⟨rfl, rfl⟩) | (go_at_call 56; refine (roil3 _ _).mono ?_; rintro e w' ⟨rfl, rfl⟩) | (go_at_call 51; refine (rname_any _ _ HNm.out).mono ?_; rintro e w' ⟨rfl, rfl⟩))
                                  go_ret3
                                  exact ⟨ret_thr HG.out, BW.out⟩
                                · skip
                                  cases i12 : inB g.pump 0 100000
                                  · have hN : numE g = 7 := HNum.out.trans (if_neg (by rintro ⟨h0, h1, h2, h3, h4, h5, h6, h7, h8, h9, h10, h11, h12, h13, h14⟩; rw [i12] at h12; cases h12))
                                    have HG := hid (show gtP g = (3, 0, 7) by rw [HE.out, hN]; rfl)
                                    clear hN
                                    clear R2 HNum HE
                                    go_wp2_with (first | (go_at_call 42; refine (rin3 _ _ _ _).mono ?_; rintro e w' ⟨rfl, rfl⟩) | (go_at_call 53; refine (rlevel3 _ _).mono ?_; rintro e w' ⟨rfl, rfl⟩) | (go_at_call 55; refine (rforce3 _ _).mono ?_; rintro e w' ⟨rfl, rfl⟩) | (go_at_call 54; refine (rrate3 _ _).mono ?_; rintro e w' ⟨rfl, rfl⟩) | (go_at_call 56; refine (roil3 _ _).mono ?_; rintro e w' ⟨rfl, rfl⟩) | (go_at_call 51; refine (rname_any _ _ HNm.out).mono ?_; rintro e w' ⟨rfl, rfl⟩))
                                    go_ret3
                                    exact ⟨ret_thr HG.out, BW.out⟩
                                  · skip
                                    cases i13 : inB g.cap 0 100000
                                    · have hN : numE g = 7 := HNum.out.trans (if_neg (by rintro ⟨h0, h1, h2, h3, h4, h5, h6, h7, h8, h9, h10, h11, h12, h13, h14⟩; rw [i13] at h13; cases h13))
                                      have HG := hid (show gtP g = (3, 0, 7) by rw [HE.out, hN]; rfl)
                                      clear hN
                                      clear R2 HNum HE
                                      go_wp2_with (first | (go_at_call 42; refine (rin3 _ _ _ _).mono ?_; rintro e w' ⟨rfl, rfl⟩) | (go_at_call 53; refine (rlevel3 _ _).mono ?_; rintro e w' ⟨rfl, rfl⟩) | (go_at_call 55; refine (rforce3 _ _).mono ?_; rintro e w' ⟨rfl, rfl⟩) | (go_at_call 54; refine (rrate3 _ _).mono ?_; rintro e w' ⟨rfl, rfl⟩) | (go_at_call 56; refine (roil3 _ _).mono ?_; rintro e w' ⟨rfl, rfl⟩) | (go_at_call 51; refine (rname_any _ _ HNm.out).mono ?_; rintro e w' ⟨rfl, rfl⟩))
                                      go_ret3
                                      exact ⟨ret_thr HG.out, BW.out⟩
                                    · skip
                                      cases i14 : inB g.slack 0 ((g.travel - 1).tdiv 2)
                                      · have hN : numE g = 7 := HNum.out.trans (if_neg (by rintro ⟨h0, h1, h2, h3, h4, h5, h6, h7, h8, h9, h10, h11, h12, h13, h14⟩; rw [i14] at h14; cases h14))
                                        have HG := hid (show gtP g = (3, 0, 7) by rw [HE.out, hN]; rfl)
                                        clear hN
                                        clear R2 HNum HE
                                        go_wp2_with (first | (go_at_call 42; refine (rin3 _ _ _ _).mono ?_; rintro e w' ⟨rfl, rfl⟩) | (go_at_call 53; refine (rlevel3 _ _).mono ?_; rintro e w' ⟨rfl, rfl⟩) | (go_at_call 55; refine (rforce3 _ _).mono ?_; rintro e w' ⟨rfl, rfl⟩) | (go_at_call 54; refine (rrate3 _ _).mono ?_; rintro e w' ⟨rfl, rfl⟩) | (go_at_call 56; refine (roil3 _ _).mono ?_; rintro e w' ⟨rfl, rfl⟩) | (go_at_call 51; refine (rname_any _ _ HNm.out).mono ?_; rintro e w' ⟨rfl, rfl⟩))
                                        go_ret3
                                        exact ⟨ret_thr HG.out, BW.out⟩
                                      · skip
                                        have hN : numE g = 0 := HNum.out.trans (if_pos ⟨i0, i1, i2, i3, i4, i5, i6, i7, i8, i9, i10, i11, i12, i13, i14⟩)
                                        rw [hN, if_neg (by simp)] at HE
                                        clear hN
                                        clear HNum
                                        go_wp2_with (first | (go_at_call 42; refine (rin3 _ _ _ _).mono ?_; rintro e w' ⟨rfl, rfl⟩) | (go_at_call 53; refine (rlevel3 _ _).mono ?_; rintro e w' ⟨rfl, rfl⟩) | (go_at_call 55; refine (rforce3 _ _).mono ?_; rintro e w' ⟨rfl, rfl⟩) | (go_at_call 54; refine (rrate3 _ _).mono ?_; rintro e w' ⟨rfl, rfl⟩) | (go_at_call 56; refine (roil3 _ _).mono ?_; rintro e w' ⟨rfl, rfl⟩) | (go_at_call 51; refine (rname_any _ _ HNm.out).mono ?_; rintro e w' ⟨rfl, rfl⟩) | (refine wpList_load_mid rfl 33 _ rfl _ 0 rfl (gtL g p) _ (R2) Try.underlying33 rfl (by kernel_rfl) ?_))
                                        refine (rsensors_any g p w2 HOk2.out).mono ?_
                                        rintro e w3 ⟨rfl, hb3⟩
                                        have BF := bthen BW.out hb3
                                        generalize senP g = q at *
                                        obtain ⟨ra, re⟩ := q
                                        dsimp only at HE ⊢
                                        by_cases hr : re = 0
                                        · have z2 : (re != 0) = false := by simp [hr]
                                          have HG := hid (show gtP g = (0, 0, 0) by rw [HE.out, if_neg (by simp [hr])])
                                          go_wp2_with fail
                                          go_ret3
                                          exact ⟨ret_thr HG.out, BF⟩
                                        · have z2 : (re != 0) = true := by simp [hr]
                                          have HG := hid (show gtP g = (4, ra, re) by rw [HE.out, if_pos hr])
                                          go_wp2_with fail
                                          go_ret3
                                          exact ⟨ret_thr HG.out, BF⟩
        · have z : (qe != 0) = true := by simp [hq]
          have HG := hid (show gtP g = (2, qa, qe) by rw [HE.out, if_pos hq])
          go_wp2_with fail
          go_ret3
          exact ⟨ret_thr HG.out, BW.out⟩
end Go.Proofs.Ytdoklolinbmhpaa
