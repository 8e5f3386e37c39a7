/- Gate, part CG: the reference's CheckSet. -/
import Derived.Test.YtdoklolinbmhpaaCD
import Derived.Test.YtdoklolinbmhpaaWB
set_option linter.all false
namespace Go.Proofs.Ytdoklolinbmhpaa
open Go.RowKit

theorem setP_eq (gs : List Gt) (rs : List Ru) : setP gs rs = if (gasP gs).2 ≠ 0 then (1, (gasP gs).1, (gasP gs).2) else if (rusP gs.length rs).2 ≠ 0 then (2, (rusP gs.length rs).1, (rusP gs.length rs).2) else (0, 0, 0) := by
  unfold setP
  generalize gasP gs = x
  generalize rusP gs.length rs = y
  obtain ⟨a, b⟩ := x
  obtain ⟨c, d⟩ := y
  by_cases h1 : b = 0
  · by_cases h2 : d = 0 <;> simp [firstAt, h1, h2]
  · simp [firstAt, h1]
theorem gasP_eq (gs : List Gt) : gasP gs = if inB gs.length 1 6 = false then (0, 3) else eachP (gaE gs) 0 gs.length := by
  unfold gasP
  cases h : inB gs.length 1 6
  · simp [firstAt, mustP]
  · simp only [Bool.true_eq_false, if_false]
    by_cases e : (eachP (gaE gs) 0 gs.length).2 = 0
    · have := each_zero e
      rw [this]; simp [firstAt, mustP]
    · obtain ⟨a, b, hab⟩ : ∃ a b, eachP (gaE gs) 0 gs.length = (a, b) := ⟨_, _, rfl⟩
      rw [hab] at e ⊢
      simp only at e
      simp [firstAt, mustP, e]
theorem rusP_eq (n : Nat) (rs : List Ru) : rusP n rs = if ¬ ((rs.length : Int) ≤ 12) then (0, 3) else eachP (fun i => ruE n (rs.getD i default)) 0 rs.length := by
  unfold rusP
  by_cases h : (rs.length : Int) ≤ 12
  · rw [if_neg (by simp [h])]
    by_cases e : (eachP (fun i => ruE n (rs.getD i default)) 0 rs.length).2 = 0
    · have := each_zero e
      rw [this]; simp [firstAt, mustP, h]
    · obtain ⟨a, b, hab⟩ : ∃ a b, eachP (fun i => ruE n (rs.getD i default)) 0 rs.length = (a, b) := ⟨_, _, rfl⟩
      rw [hab] at e ⊢
      simp only at e
      simp [firstAt, mustP, h, e]
  · rw [if_pos h]; simp [firstAt, mustP, h]
theorem ruE_alt (n : Nat) (r : Ru) : ruE n r = if inB r.gate 0 ((n : Int) - 1) = false ∨ inB r.other 0 ((n : Int) - 1) = false then 4 else if r.gate = r.other then 2
    else if inB r.lo 0 5000 = false ∨ inB r.hi r.lo 5000 = false then 7 else 0 := by
  unfold ruE
  have : (inB r.lo 0 r.hi = false ∨ inB r.hi 0 5000 = false) ↔ (inB r.lo 0 5000 = false ∨ inB r.hi r.lo 5000 = false) := by
    unfold inB; simp only [decide_eq_false_iff_not]; omega
  simp only [this]
set_option maxRecDepth 100000 in
set_option maxHeartbeats 8000000 in
theorem rcheckSet_any (z : SetV) (w : World) (hok : SetOk w z) :
    Calls Try.prog 16 #[.agg #[.slice z.ga z.gs.length z.gc, .slice z.ra z.rs.length z.rc]] w fun e w' => e = .returned (.tuple #[.int .i64 (setP z.gs z.rs).1, .int .i64 (setP z.gs z.rs).2.1, .int .i64 (setP z.gs z.rs).2.2]) ∧ Below w.heap.size w w' := by
  obtain ⟨ga, gs, gc, ps, ra, rs, rc⟩ := z
  have HG := hid hok.gates
  have HRs := hid hok.rules
  have hgl := hok.glen.2
  have hrl := hok.rlen.2
  dsimp only at HG HRs hgl hrl ⊢
  have HE := hid (setP_eq gs rs)
  have HGa := hid (gasP_eq gs)
  obtain ⟨n, hn⟩ : ∃ n, gs.length = n := ⟨_, rfl⟩
  obtain ⟨m, hm⟩ : ∃ m, rs.length = m := ⟨_, rfl⟩
  have HRu := hid (rusP_eq n rs)
  rw [hn] at HE HGa hgl ⊢
  rw [hm] at HRu hrl ⊢
  have HN := hid hn
  have HM := hid hm
  clear hok hn hm
  obtain ⟨f, hf⟩ : ∃ f : Nat → Int, gaE gs = f := ⟨_, rfl⟩
  rw [hf] at HGa
  have HF := hid hf
  clear hf
  obtain ⟨h, hh⟩ : ∃ h : Nat → Int, (fun i => ruE n (rs.getD i default)) = h := ⟨_, rfl⟩
  rw [hh] at HRu
  have HH := hid hh
  clear hh
  have B1 : Below w.heap.size w (w.alloc (.cells #[.slice ga n gc, .slice ra m rc] 25)) := (Below.refl _ _).alloc (Nat.le_refl _) _
  have S1 : w.heap.size < (w.alloc (.cells #[.slice ga n gc, .slice ra m rc] 25)).heap.size := by simp
  have c0 : (w.alloc (.cells #[.slice ga n gc, .slice ra m rc] 25)).cell? ⟨w.heap.size, 0, none⟩ = some (.slice ga n gc) := by simp [go_sem]
  have c1 : (w.alloc (.cells #[.slice ga n gc, .slice ra m rc] 25)).cell? ⟨w.heap.size, 1, none⟩ = some (.slice ra m rc) := by simp [go_sem]
  have v0 : IntKind.i64.wrap ((n : Int) - 1) = (n : Int) - 1 := IntWalk.i64_in _ (by omega)
  go_enter Try.func16, Try.ntmps16
  cases hi : inB n 1 6
  · have HX := hid (show setP gs rs = (1, 0, 3) by rw [HE.out, HGa.out, hi]; rfl)
    have HI := hid hi
    clear hi
    go_wp2_with (go_at_call 42; refine (rin3 _ _ _ _).mono ?_; rintro e w' ⟨rfl, rfl⟩; rw [HI.out])
    generalize World.alloc w _ = W1 at *
    go_ret3
    exact ⟨ret_thr HX.out, B1⟩
  have hb := inB_iff.1 hi
  have HB := hid (show 1 ≤ n ∧ n ≤ 6 by omega)
  have HI := hid hi
  replace HGa := hid (show gasP gs = eachP f 0 n by rw [HGa.out, hi]; rfl)
  clear hi hb
  go_wp2_with (go_at_call 42; refine (rin3 _ _ _ _).mono ?_; rintro e w' ⟨rfl, rfl⟩; rw [HI.out])
  generalize World.alloc w _ = W1 at *
  have B0 := hid B1
  go_loopw [5] (fun iv wr => ∃ i : Nat, i ≤ n ∧ iv = .int .i64 i ∧ Hid (eachP f 0 n = eachP f i (n - i)) ∧ Hid (Below W1.heap.size W1 wr)) (fun iv _ => n - (intOf iv).toNat)
  case atStart => exact ⟨0, Nat.zero_le _, rfl, hid rfl, hid (Below.refl _ _)⟩
  case round =>
    obtain ⟨i, hi, rfl, HL, hbw⟩ := hrel
    obtain ⟨WR, hWR⟩ : ∃ X, X = wr := ⟨_, rfl⟩
    subst hWR
    have BW := hid (bthen B1 hbw.out)
    have d0 : WR.cell? ⟨w.heap.size, 0, none⟩ = some (.slice ga n gc) := (hbw.out.cell (p := ⟨w.heap.size, 0, none⟩) S1).trans c0
    have d1 : WR.cell? ⟨w.heap.size, 1, none⟩ = some (.slice ra m rc) := (hbw.out.cell (p := ⟨w.heap.size, 1, none⟩) S1).trans c1
    have S2 : w.heap.size < WR.heap.size := Nat.lt_of_lt_of_le S1 hbw.out.size
    clear c0 c1 S1 B1
    by_cases hlt : i < n
    · have hig : i < gs.length := by rw [HN.out]; exact hlt
      obtain ⟨b, o, ea, hb0, hat⟩ := HG.out.at_.row (by omega)
      have HAt := hid (fun j (h : j < gs.length) => range_later (hat j h) BW.out hb0)
      have hbW : b < WR.heap.size := Nat.lt_of_lt_of_le hb0 BW.out.size
      have HCk := hid (rcheck_any gs[i] (ps i) WR ((HG.out.ok i hig).later BW.out (Nat.le_refl _)))
      have HRow := hid (HAt.out i hig)
      have HFi := hid (show f i = if (gtP gs[i]).2.2 ≠ 0 then (gtP gs[i]).2.2 else if 0 ≤ idxP (gaTw gs i) 0 i then 5 else 0 by
        rw [← HF.out]; unfold gaE; rw [show gs.getD i default = gs[i] by simp [List.getD, hig]]; rfl)
      rw [ea] at d0
      have hiI : (i : Int) < (n : Int) := by omega
      have hi0 : (0 : Int) ≤ (i : Int) := Int.natCast_nonneg _
      have vi : IntKind.i64.wrap ((i : Int) + 1) = ((i + 1 : Nat) : Int) := by rw [IntWalk.i64_in _ (by have := HB.out; omega)]; omega
      clear hat
      go_wp2_with (refine wpList_load_mid rfl 33 _ rfl b (o + i * 21) rfl (gtL gs[i] (ps i)) _ HRow.out Try.underlying33 rfl (by kernel_rfl) ?_)
      refine (HCk.out).mono ?_
      rintro e w2 ⟨rfl, hb2⟩
      have BW2 := hid (bthen hbw.out hb2)
      have e0 : w2.cell? ⟨w.heap.size, 0, none⟩ = some (.slice (some ⟨b, o, none⟩) n gc) := (hb2.cell (p := ⟨w.heap.size, 0, none⟩) S2).trans d0
      have e1 : w2.cell? ⟨w.heap.size, 1, none⟩ = some (.slice ra m rc) := (hb2.cell (p := ⟨w.heap.size, 1, none⟩) S2).trans d1
      have S3 : w.heap.size < w2.heap.size := Nat.lt_of_lt_of_le S2 hb2.size
      have hb2' : b < w2.heap.size := Nat.lt_of_lt_of_le hbW hb2.size
      have HAt2 := hid (fun j (h : j < gs.length) => range_later (HAt.out j h) hb2 hbW)
      obtain ⟨k1, k2, ge, hge⟩ : ∃ a b c, gtP gs[i] = (a, b, c) := ⟨_, _, _, rfl⟩
      rw [hge] at HFi ⊢
      dsimp only at HFi ⊢
      have HLi := hid (fun h => eachP_no (f := f) (k := i) (n := n) hlt h)
      have HLy := hid (fun h => eachP_yes (f := f) (k := i) (n := n) hlt h)
      clear hge HCk HRow d0 d1 hbw hlt hb2 HAt
      go_wp2_with fail
      go_loopw [8, 9] (fun ev kv wy => ∃ (k : Nat) (e' : Int), k ≤ i ∧ ev = .int .i64 e' ∧ kv = .int .i64 k ∧ Hid ((e' = 0 ∧ ge = 0 ∧ idxP (gaTw gs i) 0 i = idxP (gaTw gs i) k (i - k)) ∨ (e' ≠ 0 ∧ f i = e')) ∧ Hid (Below w2.heap.size w2 wy)) (fun _ kv _ => i - (intOf kv).toNat)
      case atStart =>
        refine ⟨0, ge, Nat.zero_le _, rfl, rfl, hid ?_, hid (Below.refl _ _)⟩
        by_cases hx : ge = 0
        · exact .inl ⟨hx, hx, rfl⟩
        · exact .inr ⟨hx, by rw [HFi.out, if_pos hx]⟩
      case round =>
        obtain ⟨k, e', hk, rfl, rfl, HK, hby⟩ := hrel
        have BF := hid (bthen BW2.out hby.out)
        have f0 : wr.cell? ⟨w.heap.size, 0, none⟩ = some (.slice (some ⟨b, o, none⟩) n gc) := (hby.out.cell (p := ⟨w.heap.size, 0, none⟩) S3).trans e0
        have f1 : wr.cell? ⟨w.heap.size, 1, none⟩ = some (.slice ra m rc) := (hby.out.cell (p := ⟨w.heap.size, 1, none⟩) S3).trans e1
        clear e0 e1
        have vk : IntKind.i64.wrap ((k : Int) + 1) = ((k + 1 : Nat) : Int) := by rw [IntWalk.i64_in _ (by have := HB.out; omega)]; omega
        by_cases he : e' = 0
        · have HK0 := hid (show ge = 0 ∧ idxP (gaTw gs i) 0 i = idxP (gaTw gs i) k (i - k) by
            rcases HK.out with h | h
            · exact h.2
            · exact absurd he h.1)
          subst he
          have q0 : ((0 : Int) == 0) = true := rfl
          clear HK
          by_cases hkl : k < i
          · have hkg : k < gs.length := by omega
            have Rk := range_later (HAt2.out k hkg) hby.out hb2'
            have Ri := range_later (HAt2.out i hig) hby.out hb2'
            have nk : wr.cell? ⟨b, o + k * 21, none⟩ = some (.string gs[k].name) := by simpa using Rk 0 _ (show (gtL gs[k] (ps k))[0]? = some (.string gs[k].name) from rfl)
            have ni : wr.cell? ⟨b, o + i * 21, none⟩ = some (.string gs[i].name) := by simpa using Ri 0 _ (show (gtL gs[i] (ps i))[0]? = some (.string gs[i].name) from rfl)
            have HTw := hid (show gaTw gs i k = (gs[k].name.toList == gs[i].name.toList) by
              unfold gaTw; rw [show gs.getD k default = gs[k] by simp [List.getD, hkg], show gs.getD i default = gs[i] by simp [List.getD, hig]])
            have HIy := hid (fun he => idxP_yes (f := gaTw gs i) hkl he)
            have HIn := hid (fun he => idxP_no (f := gaTw gs i) hkl he)
            obtain ⟨x, hx⟩ : ∃ x, gs[k].name = x := ⟨_, rfl⟩
            obtain ⟨y, hy⟩ : ∃ y, gs[i].name = y := ⟨_, rfl⟩
            rw [hx] at nk HTw
            rw [hy] at ni HTw
            have hkI : (k : Int) < (i : Int) := by omega
            have hkN : (k : Int) < (n : Int) := by omega
            have hk0 : (0 : Int) ≤ (k : Int) := Int.natCast_nonneg _
            clear Rk Ri hx hy
            cases hc : (x.toList == y.toList)
            · have HT2 := hid (HTw.out.trans hc)
              go_wp2_with fail
              go_quiet (fail)
              have HB2 := hid (below_drewN hby.out nq)
              clear nk ni f0 f1
              go_wp2_with fail
              exact ⟨⟨k + 1, 0, by omega, rfl, by go_num, hid (.inl ⟨rfl, HK0.out.1, HK0.out.2.trans (HIn.out HT2.out)⟩), HB2⟩, by simp [intOf]; omega⟩
            · have HT2 := hid (HTw.out.trans hc)
              go_wp2_with fail
              go_quiet (fail)
              have HB2 := hid (below_drewN hby.out nq)
              clear nk ni f0 f1
              go_wp2_with fail
              exact ⟨⟨k + 1, 5, by omega, rfl, by go_num, hid (.inr ⟨by decide, by rw [HFi.out, if_neg (by simp [HK0.out.1]), HK0.out.2, HIy.out HT2.out, if_pos (by omega)]⟩), HB2⟩, by simp [intOf]; omega⟩
          · obtain rfl : k = i := by omega
            have hjj : ¬ ((k : Int) < (k : Int)) := by omega
            have HG0 := hid (show eachP f 0 n = eachP f (k + 1) (n - (k + 1)) from HL.out.trans (HLi.out (by rw [HFi.out, if_neg (by simp [HK0.out.1]), HK0.out.2, Nat.sub_self]; rfl)))
            have q1 : ((0 : Int) != 0) = false := rfl
            clear hkl f0 f1
            go_wp2_with fail
            exact ⟨⟨_, _, _, _, ⟨k + 1, by omega, rfl, HG0⟩, rfl, rfl, rfl, by go_num⟩, by simp [intOf]; omega⟩
        · have HK0 := hid (show f i = e' by
            rcases HK.out with h | h
            · exact absurd h.1 he
            · exact h.2)
          have q0 : (e' == 0) = false := by simp [he]
          have q1 : (e' != 0) = true := by simp [he]
          have HX := hid (show setP gs rs = (1, (i : Int), e') by
            rw [HE.out, HGa.out, HL.out, HLy.out (by rw [HK0.out]; simpa using he), HK0.out, if_pos (by simpa using he)])
          clear HK he f0 f1
          by_cases hkl : k < i
          · have hkI : (k : Int) < (i : Int) := by omega
            go_wp2_with fail
            go_ret3
            exact ⟨ret_thr HX.out, bthen B0.out BF.out⟩
          · have hjj : ¬ ((k : Int) < (i : Int)) := by omega
            go_wp2_with fail
            go_ret3
            exact ⟨ret_thr HX.out, bthen B0.out BF.out⟩
    · obtain rfl : i = n := by omega
      have hjj : ¬ ((i : Int) < (i : Int)) := by omega
      replace HE := hid (show setP gs rs = if (rusP i rs).2 ≠ 0 then (2, (rusP i rs).1, (rusP i rs).2) else (0, 0, 0) by
        have e0 : eachP f 0 i = (0, 0) := by rw [HL.out, Nat.sub_self]; rfl
        rw [HE.out, HGa.out, e0, if_neg (by simp)])
      clear HGa HL hlt hbw
      by_cases h12 : m ≤ 12
      · have z12 : decide (12 < (m : Int)) = false := by simp; omega
        have H12 := hid h12
        replace HRu := hid (show rusP i rs = eachP h 0 m by rw [HRu.out, if_neg (by omega)])
        clear h12
        go_wp2_with fail
        go_loopw [10] (fun jv wx => ∃ j : Nat, j ≤ m ∧ jv = .int .i64 j ∧ Hid (eachP h 0 m = eachP h j (m - j)) ∧ Hid (Below WR.heap.size WR wx)) (fun jv _ => m - (intOf jv).toNat)
        case atStart => exact ⟨0, Nat.zero_le _, rfl, hid rfl, hid (Below.refl _ _)⟩
        case round =>
          obtain ⟨j, hj, rfl, HL, hbw⟩ := hrel
          have BX := hid (bthen BW.out hbw.out)
          have e0 : wr.cell? ⟨w.heap.size, 0, none⟩ = some (.slice ga i gc) := (hbw.out.cell (p := ⟨w.heap.size, 0, none⟩) S2).trans d0
          have e1 : wr.cell? ⟨w.heap.size, 1, none⟩ = some (.slice ra m rc) := (hbw.out.cell (p := ⟨w.heap.size, 1, none⟩) S2).trans d1
          have S3 : w.heap.size < wr.heap.size := Nat.lt_of_lt_of_le S2 hbw.out.size
          clear d0 d1
          by_cases hlt : j < m
          · have hjg : j < rs.length := by rw [HM.out]; exact hlt
            obtain ⟨b, o, ea, hb0, hc⟩ := HRs.out.row (by omega)
            have Rs := range_later (hc j hjg) BX.out hb0
            have HX := hid (show h j = ruE i rs[j] by rw [← HH.out]; simp [List.getD, hjg])
            generalize rs[j] = r at *
            rw [ea] at e1 ⊢
            have s0 : wr.cell? ⟨b, o + j * 4, none⟩ = some (.int .i64 r.gate) := by simpa using Rs 0 _ (show (ruL r)[0]? = some (.int .i64 r.gate) from rfl)
            have s1 : wr.cell? ⟨b, o + j * 4 + 1, none⟩ = some (.int .i64 r.other) := Rs 1 _ rfl
            have s2 : wr.cell? ⟨b, o + j * 4 + 2, none⟩ = some (.int .i64 r.lo) := Rs 2 _ rfl
            have s3 : wr.cell? ⟨b, o + j * 4 + 3, none⟩ = some (.int .i64 r.hi) := Rs 3 _ rfl
            have hjI : (j : Int) < (m : Int) := by omega
            have hj0 : (0 : Int) ≤ (j : Int) := Int.natCast_nonneg _
            have vj : IntKind.i64.wrap ((j : Int) + 1) = ((j + 1 : Nat) : Int) := by rw [IntWalk.i64_in _ (by have := H12.out; omega)]; omega
            have HBn := hid (hbw.out.trans ((((Below.refl wr.heap.size wr).alloc (Nat.le_refl _) (.cells #[.int .i64 r.gate, .int .i64 r.other, .int .i64 r.lo, .int .i64 r.hi] 84))).mono hbw.out.size))
            have HBf := hid (bthen BX.out (((Below.refl wr.heap.size wr).alloc (Nat.le_refl _) (.cells #[.int .i64 r.gate, .int .i64 r.other, .int .i64 r.lo, .int .i64 r.hi] 84))))
            clear hc hjg hb0 ea Rs hbw
            have HS := hid (ruE_alt i r)
            cases i1 : inB r.gate 0 ((i : Int) - 1)
            · skip
              have HG := hid (show eachP h j (m - j) = ((j : Int), 4) by rw [eachP_yes hlt (by rw [HX.out, HS.out, if_pos (.inl i1)]; simp), HX.out, HS.out, if_pos (.inl i1)])
              have HZ := hid (show setP gs rs = (2, (j : Int), 4) by rw [HE.out, HRu.out, HL.out, HG.out, if_pos (by simp)])
              clear hlt
              go_wp2_with (go_at_call 42; refine (rin3 _ _ _ _).mono ?_; rintro e w' ⟨rfl, rfl⟩)
              go_ret3
              exact ⟨ret_thr HZ.out, HBf.out⟩
            cases i2 : inB r.other 0 ((i : Int) - 1)
            · skip
              have HG := hid (show eachP h j (m - j) = ((j : Int), 4) by rw [eachP_yes hlt (by rw [HX.out, HS.out, if_pos (.inr i2)]; simp), HX.out, HS.out, if_pos (.inr i2)])
              have HZ := hid (show setP gs rs = (2, (j : Int), 4) by rw [HE.out, HRu.out, HL.out, HG.out, if_pos (by simp)])
              clear hlt
              go_wp2_with (go_at_call 42; refine (rin3 _ _ _ _).mono ?_; rintro e w' ⟨rfl, rfl⟩)
              go_ret3
              exact ⟨ret_thr HZ.out, HBf.out⟩
            have HS2 := hid (HS.out.trans (if_neg (by rw [i1, i2]; simp)))
            replace HS := HS2
            by_cases hgo : r.gate = r.other
            · have a1 : (r.gate == r.other) = true := by simp [hgo]
              have HG := hid (show eachP h j (m - j) = ((j : Int), 2) by rw [eachP_yes hlt (by rw [HX.out, HS.out, if_pos hgo]; simp), HX.out, HS.out, if_pos hgo])
              have HZ := hid (show setP gs rs = (2, (j : Int), 2) by rw [HE.out, HRu.out, HL.out, HG.out, if_pos (by simp)])
              clear hlt hgo
              go_wp2_with (go_at_call 42; refine (rin3 _ _ _ _).mono ?_; rintro e w' ⟨rfl, rfl⟩)
              go_ret3
              exact ⟨ret_thr HZ.out, HBf.out⟩
            have a1 : (r.gate == r.other) = false := by simp [hgo]
            replace HS2 := hid (HS.out.trans (if_neg hgo))
            replace HS := HS2
            clear hgo
            cases i3 : inB r.lo 0 5000
            · skip
              have HG := hid (show eachP h j (m - j) = ((j : Int), 7) by rw [eachP_yes hlt (by rw [HX.out, HS.out, if_pos (.inl i3)]; simp), HX.out, HS.out, if_pos (.inl i3)])
              have HZ := hid (show setP gs rs = (2, (j : Int), 7) by rw [HE.out, HRu.out, HL.out, HG.out, if_pos (by simp)])
              clear hlt
              go_wp2_with (go_at_call 42; refine (rin3 _ _ _ _).mono ?_; rintro e w' ⟨rfl, rfl⟩)
              go_ret3
              exact ⟨ret_thr HZ.out, HBf.out⟩
            cases i4 : inB r.hi r.lo 5000
            · skip
              have HG := hid (show eachP h j (m - j) = ((j : Int), 7) by rw [eachP_yes hlt (by rw [HX.out, HS.out, if_pos (.inr i4)]; simp), HX.out, HS.out, if_pos (.inr i4)])
              have HZ := hid (show setP gs rs = (2, (j : Int), 7) by rw [HE.out, HRu.out, HL.out, HG.out, if_pos (by simp)])
              clear hlt
              go_wp2_with (go_at_call 42; refine (rin3 _ _ _ _).mono ?_; rintro e w' ⟨rfl, rfl⟩)
              go_ret3
              exact ⟨ret_thr HZ.out, HBf.out⟩
            · skip
              have HG := hid (show eachP h j (m - j) = eachP h (j + 1) (m - (j + 1)) from eachP_no hlt (by rw [HX.out, HS.out, if_neg (by rw [i3, i4]; simp)]))
              clear hlt
              go_wp2_with (go_at_call 42; refine (rin3 _ _ _ _).mono ?_; rintro e w' ⟨rfl, rfl⟩)
              exact ⟨⟨j + 1, by omega, by go_num, hid (HL.out.trans HG.out), HBn⟩, by simp [intOf]; omega⟩
          · obtain rfl : j = m := by omega
            have hjj : ¬ ((j : Int) < (j : Int)) := by omega
            have HX := hid (show setP gs rs = (0, 0, 0) by
              have e0 : eachP h 0 j = (0, 0) := by rw [HL.out, Nat.sub_self]; rfl
              rw [HE.out, HRu.out, e0, if_neg (by simp)])
            go_wp2_with fail
            go_ret3
            exact ⟨ret_thr HX.out, BX.out⟩
      · have z12 : decide (12 < (m : Int)) = true := by simp; omega
        have HX := hid (show setP gs rs = (2, 0, 3) by
          have h0 : rusP i rs = (0, 3) := by rw [HRu.out, if_pos (by omega)]
          rw [HE.out, h0, if_pos (by simp)])
        clear h12
        go_wp2_with fail
        go_ret3
        exact ⟨ret_thr HX.out, BW.out⟩
end Go.Proofs.Ytdoklolinbmhpaa
