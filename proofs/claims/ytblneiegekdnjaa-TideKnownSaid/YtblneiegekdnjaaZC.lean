/- Tide, part ZC: Level and Levels of the reference, Levels of package tide, and Spans. -/
import Derived.Test.YtblneiegekdnjaaZB
import Derived.OwnWalk
set_option linter.all false
namespace Go.Proofs.Ytblneiegekdnjaa
open Go.RowKit

set_option maxRecDepth 100000 in
set_option maxHeartbeats 1000000 in
theorem rlevelFn_any (mean : Int) (a : Option Addr) (cap : Nat) (cs : List Con) (t : Int) (w : World) (hok : ConsOk w a cap cs) :
    Calls Try.prog 24 #[.agg #[.int .i64 mean, .slice a cs.length cap], .int .i64 t] w
      fun e w' => e = .returned (.tuple #[.agg #[.int .i64 (levelP mean cs t).1.1, .int .i64 (levelP mean cs t).1.2], .int .i64 (levelP mean cs t).2]) ∧ Below w.heap.size w w' := by
  have HH := hid hok; clear hok
  have HP := hid (levelP_eq mean cs t)
  go_enter Try.func24, Try.ntmps24
  go_wp2_with fail
  generalize hW1 : World.alloc (World.alloc w _) _ = W1
  have B1 : Below w.heap.size w W1 := by rw [← hW1]; repeat (first | exact Below.refl _ _ | refine Below.alloc ?_ (by simp <;> omega) _)
  have S1 : w.heap.size + 1 < W1.heap.size := by rw [← hW1]; simp
  have b0 : W1.cell? ⟨w.heap.size, 0, none⟩ = some (.int .i64 mean) := by rw [← hW1]; simp [go_sem]
  have b1 : W1.cell? ⟨w.heap.size, 1, none⟩ = some (.slice a cs.length cap) := by rw [← hW1]; simp [go_sem]
  have r0 : W1.cell? ⟨w.heap.size + 1, 0, none⟩ = some (.int .i64 0) := by rw [← hW1]; simp [go_sem]
  have r1 : W1.cell? ⟨w.heap.size + 1, 1, none⟩ = some (.int .i64 0) := by rw [← hW1]; simp [go_sem]
  have z0 : W1.frozen? ⟨w.heap.size + 1, 0, none⟩ = false := by rw [← hW1]; simp [go_sem]
  have z1 : W1.frozen? ⟨w.heap.size + 1, 1, none⟩ = false := by rw [← hW1]; simp [go_sem]
  clear hW1
  refine (rcheck_any mean a cap cs _ (HH.out.later B1 (Nat.le_refl _))).mono ?_
  rintro e W2 ⟨rfl, B2⟩
  have hs2 := B2.size
  have c0 := (B2.cell (p := ⟨w.heap.size, 0, none⟩) (by simp; omega)).trans b0
  have c1 := (B2.cell (p := ⟨w.heap.size, 1, none⟩) (by simp; omega)).trans b1
  have t0 := (B2.cell (p := ⟨w.heap.size + 1, 0, none⟩) S1).trans r0
  have t1 := (B2.cell (p := ⟨w.heap.size + 1, 1, none⟩) S1).trans r1
  have u0 := (B2.frozen (p := ⟨w.heap.size + 1, 0, none⟩) S1).trans z0
  have u1 := (B2.frozen (p := ⟨w.heap.size + 1, 1, none⟩) S1).trans z1
  have BW : Below w.heap.size w W2 := B1.trans (B2.mono (by omega))
  clear b0 b1 r0 r1 z0 z1
  have HGd := hid (fun h => tabGood_of (mean := mean) (cs := cs) h)
  generalize checkP mean cs = q at *
  by_cases hq : q.2 = 0
  · have hq' : (q.2 != 0) = false := by simp [hq]
    have hq'' : (q.2 == 0) = true := by simp [hq]
    have HQ := hid hq; clear hq
    cases ht : inB t 0 200000
    · have HT := hid ht
      go_wp2_with (go_at_call 61; refine (rtickV _ _ _ (by assumption)).mono ?_; rintro e w' ⟨rfl, rfl⟩)
      refine bodyPost_ret (v := .tuple #[.agg #[.int .i64 0, .int .i64 0], .int .i64 7]) (by simp [results, Try.results24, go_sem, *]) rfl ⟨by rw [HP.out]; simp [HQ.out, HT.out], ?_⟩
      repeat (first | exact BW | refine Below.setCell ?_ (by simp) _)
    · have HT := hid ht
      have hGd := HGd.out HQ.out
      have htb := inB_iff.1 HT.out
      go_wp2_with (go_at_call 61; refine (rtickV _ _ _ (by assumption)).mono ?_; rintro e w' ⟨rfl, rfl⟩)
      refine Calls.mono (rlevel_any mean t a cap cs _ (HH.out.later BW (Nat.le_refl _)) hGd.2.2 hGd.1 htb hGd.2.1) ?_
      rintro e W3 ⟨rfl, B3⟩
      have HF := hid (show levelP mean cs t = (levelAt mean cs t, 0) by rw [HP.out]; simp [HQ.out, HT.out])
      clear hGd HGd
      generalize levelAt mean cs t = s at *
      have hs3 := B3.size
      have x0 := (B3.cell (p := ⟨w.heap.size + 1, 0, none⟩) (by simp; omega)).trans t0
      have x1 := (B3.cell (p := ⟨w.heap.size + 1, 1, none⟩) (by simp; omega)).trans t1
      have y0 := (B3.frozen (p := ⟨w.heap.size + 1, 0, none⟩) (by simp; omega)).trans u0
      have y1 := (B3.frozen (p := ⟨w.heap.size + 1, 1, none⟩) (by simp; omega)).trans u1
      clear t0 t1 u0 u1 c0 c1
      go_wp2_with fail
      refine bodyPost_ret (v := .tuple #[.agg #[.int .i64 s.1, .int .i64 s.2], .int .i64 0]) (by simp [results, Try.results24, go_sem, *]) rfl ⟨by rw [HF.out], ?_⟩
      repeat (first | exact BW.trans (B3.mono (by omega)) | refine Below.alloc ?_ (by simp <;> omega) _ | refine Below.setCell ?_ (by simp) _)
  · have hq' : (q.2 != 0) = true := by simp [hq]
    have hq'' : (q.2 == 0) = false := by simp [hq]
    have HQ := hid hq; clear hq
    go_wp2_with fail
    refine bodyPost_ret (v := .tuple #[.agg #[.int .i64 0, .int .i64 0], .int .i64 q.2]) (by simp [results, Try.results24, go_sem, *]) rfl ⟨by rw [HP.out, if_pos HQ.out], ?_⟩
    repeat (first | exact BW | refine Below.setCell ?_ (by simp) _)

/-! ### Levels -/

theorem someV (e : Int) (x n : Int) (w : World) (he : someE x n = e) :
    Calls Try.prog 65 #[.int .i64 x, .int .i64 n] w fun r w' => r = .returned (.int .i64 e) ∧ w = w' := by
  rw [← he]; exact rsome_any x n w
theorem areTicksV (v : Bool) (x n : Int) (w : World) (h0 : 0 ≤ n) (h1 : n ≤ 400) (hv : ticksB x n = v) :
    Calls Try.prog 64 #[.int .i64 x, .int .i64 n] w fun r w' => r = .returned (.bool v) ∧ w = w' := by
  rw [← hv]; exact areTicks_any x n h0 (by omega) w
theorem someE_ok {x n : Int} (h : someE x n = 0) : ∃ m : Nat, n = m ∧ m ≤ 400 ∧ ticksB x m = true := by
  unfold someE at h
  split at h
  · cases h
  rename_i h1
  split at h
  · cases h
  rename_i h2
  have := inB_iff.1 (by simpa using h1)
  refine ⟨n.toNat, by omega, by omega, ?_⟩
  rw [show ((n.toNat : Nat) : Int) = n by omega]; simpa using h2
theorem retL {v : Value} {e : Int} {L : List (Int × Int)} {c : Option Addr} {k : Nat} (hv : v = .slice c L.length k) : Ending.returned (.tuple #[v, .int .i64 e]) = Ending.returned (.tuple #[.slice c L.length k, .int .i64 e]) := by rw [hv]

set_option maxRecDepth 100000 in
set_option maxHeartbeats 1000000 in
theorem levelsFn_any (mean : Int) (a : Option Addr) (cap : Nat) (cs : List Con) (x n : Int) (w : World) (hok : ConsOk w a cap cs) :
    Calls Try.prog 25 #[.agg #[.int .i64 mean, .slice a cs.length cap], .int .i64 x, .int .i64 n] w
      fun e w' => ∃ la lc, e = .returned (.tuple #[.slice la (levelsP mean cs x n).1.length lc, .int .i64 (levelsP mean cs x n).2]) ∧ SpansAt w' la (levelsP mean cs x n).1 ∧ Below w.heap.size w w' := by
  have HH := hid hok; clear hok
  have HP := hid (levelsP_eq mean cs x n)
  have HS := hid (someE_eq x n)
  go_enter Try.func25, Try.ntmps25
  go_wp2_with fail
  generalize hW1 : World.alloc w _ = W1
  have B1 : Below w.heap.size w W1 := by rw [← hW1]; repeat (first | exact Below.refl _ _ | refine Below.alloc ?_ (by simp <;> omega) _)
  have S1 : w.heap.size < W1.heap.size := by rw [← hW1]; simp
  have b0 : W1.cell? ⟨w.heap.size, 0, none⟩ = some (.int .i64 mean) := by rw [← hW1]; simp [go_sem]
  have b1 : W1.cell? ⟨w.heap.size, 1, none⟩ = some (.slice a cs.length cap) := by rw [← hW1]; simp [go_sem]
  clear hW1
  refine (check_any mean a cap cs _ (HH.out.later B1 (Nat.le_refl _))).mono ?_
  rintro e W2 ⟨rfl, B2⟩
  have hs2 := B2.size
  have c0 := (B2.cell (p := ⟨w.heap.size, 0, none⟩) (by simp; omega)).trans b0
  have c1 := (B2.cell (p := ⟨w.heap.size, 1, none⟩) (by simp; omega)).trans b1
  have BW : Below w.heap.size w W2 := B1.trans (B2.mono (by omega))
  clear b0 b1
  have HGd := hid (fun h => tabGood_of (mean := mean) (cs := cs) h)
  generalize checkP mean cs = q at *
  by_cases hq : q.2 = 0
  · have hq' : (q.2 != 0) = false := by simp [hq]
    have HQ := hid hq; clear hq
    cases hn : inB n 0 400
    · have HN := hid hn
      have HR := hid (show levelsP mean cs x n = ([], 3) by rw [HP.out, HS.out]; simp [HQ.out, HN.out])
      go_wp2_with (go_at_call 63; refine (in_val _ _ _ _ _ (by assumption)).mono ?_; rintro e w' ⟨rfl, rfl⟩)
      refine bodyPost_ret (v := .tuple #[.slice none 0 0, .int .i64 3]) (by simp [results, Try.results25, go_sem, *]) rfl ⟨none, 0, ?_, .inl ?_, BW⟩
      · rw [HR.out]; rfl
      · rw [HR.out]
    · have HN := hid hn
      obtain ⟨hn0, hn1⟩ := inB_iff.1 HN.out
      cases ht : ticksB x n
      · have HT := hid ht
        have HR := hid (show levelsP mean cs x n = ([], 7) by rw [HP.out, HS.out]; simp [HQ.out, HN.out, HT.out])
        go_wp2_with (first
          | (go_at_call 63; refine (in_val _ _ _ _ _ (by assumption)).mono ?_; rintro e w' ⟨rfl, rfl⟩)
          | (go_at_call 64; refine (areTicksV _ _ _ _ hn0 hn1 (by assumption)).mono ?_; rintro e w' ⟨rfl, rfl⟩))
        refine bodyPost_ret (v := .tuple #[.slice none 0 0, .int .i64 7]) (by simp [results, Try.results25, go_sem, *]) rfl ⟨none, 0, ?_, .inl ?_, BW⟩
        · rw [HR.out]; rfl
        · rw [HR.out]
      · have HT := hid ht
        obtain ⟨m, rfl⟩ : ∃ m : Nat, n = m := ⟨n.toNat, by omega⟩
        have hGd := HGd.out HQ.out
        have htk := ticksB_iff.1 HT.out
        have HR := hid (show levelsP mean cs x m = (levelsL mean cs x m, 0) by rw [HP.out, HS.out]; simp [HQ.out, HN.out, HT.out])
        go_wp2_with (first
          | (go_at_call 63; refine (in_val _ _ _ _ _ (by assumption)).mono ?_; rintro e w' ⟨rfl, rfl⟩)
          | (go_at_call 64; refine (areTicksV _ _ _ _ hn0 hn1 (by assumption)).mono ?_; rintro e w' ⟨rfl, rfl⟩))
        refine Calls.mono (levelsOf_any mean x a cap m cs _ (HH.out.later BW (Nat.le_refl _)) hGd.2.2 hGd.1 (by omega) (by omega) hGd.2.1) ?_
        rintro e W3 ⟨lb, rfl, hl1, hl2, hrow, B3⟩
        have HRw := hid hrow; clear hrow hGd HGd htk
        go_wp2_with fail
        refine bodyPost_ret (v := .tuple #[.slice (some ⟨lb, 0, none⟩) m m, .int .i64 0]) (by simp [results, Try.results25, go_sem, *]) rfl ⟨some ⟨lb, 0, none⟩, m, ?_, ?_, BW.trans (B3.mono (by omega))⟩
        · rw [HR.out]; simp only [levelsL_len]
        · rw [HR.out]; exact spansAt_row hl2 HRw.out
  · have hq' : (q.2 != 0) = true := by simp [hq]
    have HQ := hid hq; clear hq
    have HR := hid (show levelsP mean cs x n = ([], q.2) by rw [HP.out, if_pos HQ.out])
    go_wp2_with fail
    refine bodyPost_ret (v := .tuple #[.slice none 0 0, .int .i64 q.2]) (by simp [results, Try.results25, go_sem, *]) rfl ⟨none, 0, ?_, .inl ?_, BW⟩
    · rw [HR.out]; rfl
    · rw [HR.out]

set_option maxRecDepth 100000 in
set_option maxHeartbeats 2000000 in
theorem rlevels_any (mean : Int) (a : Option Addr) (cap : Nat) (cs : List Con) (x n : Int) (w : World) (hok : ConsOk w a cap cs) :
    Calls Try.prog 26 #[.agg #[.int .i64 mean, .slice a cs.length cap], .int .i64 x, .int .i64 n] w
      fun e w' => ∃ la lc, e = .returned (.tuple #[.slice la (levelsP mean cs x n).1.length lc, .int .i64 (levelsP mean cs x n).2]) ∧ SpansAt w' la (levelsP mean cs x n).1 ∧ Below w.heap.size w w' := by
  have HH := hid hok; clear hok
  have HP := hid (levelsP_eq mean cs x n)
  obtain ⟨i0, hi, hz0, hz1, hz2⟩ := info_parts A.info32
  go_enter Try.func26, Try.ntmps26
  go_wp2_with fail
  generalize hW1 : World.alloc w _ = W1
  have B1 : Below w.heap.size w W1 := by rw [← hW1]; repeat (first | exact Below.refl _ _ | refine Below.alloc ?_ (by simp <;> omega) _)
  have S1 : w.heap.size < W1.heap.size := by rw [← hW1]; simp
  have b0 : W1.cell? ⟨w.heap.size, 0, none⟩ = some (.int .i64 mean) := by rw [← hW1]; simp [go_sem]
  have b1 : W1.cell? ⟨w.heap.size, 1, none⟩ = some (.slice a cs.length cap) := by rw [← hW1]; simp [go_sem]
  clear hW1
  refine (rcheck_any mean a cap cs _ (HH.out.later B1 (Nat.le_refl _))).mono ?_
  rintro e W2 ⟨rfl, B2⟩
  have hs2 := B2.size
  have c0 := (B2.cell (p := ⟨w.heap.size, 0, none⟩) (by simp; omega)).trans b0
  have c1 := (B2.cell (p := ⟨w.heap.size, 1, none⟩) (by simp; omega)).trans b1
  have BW : Below w.heap.size w W2 := B1.trans (B2.mono (by omega))
  clear b0 b1
  have HGd := hid (fun h => tabGood_of (mean := mean) (cs := cs) h)
  generalize checkP mean cs = q at *
  by_cases hq : q.2 = 0
  · have hq'' : (q.2 == 0) = true := by simp [hq]
    have HQ := hid hq; clear hq
    obtain ⟨se, hse⟩ : ∃ se, someE x n = se := ⟨_, rfl⟩
    have HSe := hid hse
    by_cases hse0 : se = 0
    · have hs' : (se != 0) = false := by simp [hse0]
      have HS0 := hid hse0
      have hse2 := hse
      rw [hse0] at hse2
      obtain ⟨m, rfl, hm4, htk⟩ := someE_ok hse2
      clear hse hse2 hse0
      have HTk := hid htk; clear htk
      have hGd := HGd.out HQ.out
      have HGood := hid hGd; clear hGd HGd
      have HR := hid (show levelsP mean cs x m = (levelsL mean cs x m, 0) by rw [HP.out, HSe.out, HS0.out]; simp [HQ.out])
      go_wp2_with (go_at_call 65; refine (someV _ _ _ _ HSe.out).mono ?_; rintro e w' ⟨rfl, rfl⟩)
      have C0 := hid c0; have C1 := hid c1; clear c0 c1
      go_loopw [10, 11] (fun v i wr => ∃ k : Nat, k ≤ m ∧ i = .int .i64 k ∧ Hid (wr.ownsRow W2.heap.size 32 2 v k (spanVals (levelsL mean cs x k))) ∧ Below W2.heap.size W2 wr) (fun _ i _ => m - (intOf i).toNat)
      case atStart => exact ⟨0, Nat.zero_le _, rfl, hid (World.ownsRow_nil _ _ _ _), Below.refl _ _⟩
      case round =>
        obtain ⟨k, hk, rfl, hown, hbw⟩ := hrel
        have e0 := (hbw.cell (p := ⟨w.heap.size, 0, none⟩) (by simp; omega)).trans C0.out
        have e1 := (hbw.cell (p := ⟨w.heap.size, 1, none⟩) (by simp; omega)).trans C1.out
        have hbl : Below w.heap.size w wr := BW.trans (hbw.mono (by omega))
        have hsz := hbw.size
        by_cases hlt : k < m
        · have htk := ticksB_iff.1 HTk.out
          have hxk : 0 ≤ x + (k : Int) ∧ x + (k : Int) ≤ 200000 := by omega
          obtain ⟨hxk0, hxk1⟩ := hxk
          clear htk
          go_wp2_with fail
          refine (rlevel_any mean (x + k) a cap cs _ (HH.out.later hbl (Nat.le_refl _)) HGood.out.2.2 HGood.out.1 ⟨hxk0, hxk1⟩ HGood.out.2.1).mono ?_
          rintro e W3 ⟨rfl, B3⟩
          have hs3 := B3.size
          have hown3 := ownsRow_below hown.out B3
          have HSn := hid (levelsL_snoc mean cs x k)
          generalize levelAt mean cs (x + (k : Int)) = s at *
          clear e0 e1 hown
          go_wp2_with (at_builtin; refine wpList_append_own _ rfl _ _ 35 rfl W2.heap.size 32 i0 (.agg #[.int .i64 0, .int .i64 0]) 2 16 Try.underlying35 hi hz0 hz1 hz2 rfl (by decide) _ _ _ rfl (hown3.alloc _) ⟨W3.heap.size, 0, none⟩ 1 1 [.int .i64 s.1, .int .i64 s.2] rfl rfl ?c1 ?c2 ?c3 ?c4 ?c5 ?_)
          case c1 =>
            intro j u hj
            match j, hj with
            | 0, hj => simp at hj; subst hj; simp [Addr.add, go_sem]
            | 1, hj => simp at hj; subst hj; simp [Addr.add, go_sem]
          case c2 => intro u hu; simp at hu; rcases hu with rfl | rfl <;> rfl
          case c3 => unfold maxLen; omega
          case c4 => omega
          case c5 => simp; omega
          intro v' w1 hown' hgrow _
          have BX : Below W2.heap.size W2 w1 := (hbw.trans ((B3.mono (by omega)).alloc (by omega) _)).trans (below_own (hown3.alloc _) (Nat.le_refl _) (by simp; omega) hgrow)
          have HO := hid (show w1.ownsRow W2.heap.size 32 2 v' (k + 1) (spanVals (levelsL mean cs x (k + 1))) by rw [HSn.out, spanVals_snoc]; exact hown')
          clear hown' hown3 hgrow
          go_wp2_with fail
          refine ⟨⟨k + 1, by omega, by go_num, HO, BX⟩, by simp [intOf]; omega⟩
        · obtain rfl : k = m := by omega
          obtain ⟨la, lc, hv, hsp⟩ := spansAt_of_own (l := levelsL mean cs x k) (by rw [levelsL_len]; exact hown.out)
          rw [levelsL_len] at hv
          subst hv
          have HSp := hid hsp; clear hsp hown
          go_wp2_with fail
          refine bodyPost_ret (v := .tuple #[.slice la k lc, .int .i64 0]) (by simp [results, Try.results26, go_sem, *]) rfl ⟨la, lc, ?_, ?_, hbl⟩
          · rw [HR.out]; simp only [levelsL_len]
          · rw [HR.out]; exact HSp.out
    · have hs' : (se != 0) = true := by simp [hse0]
      have HS0 := hid hse0; clear hse0 hse
      have HR := hid (show levelsP mean cs x n = ([], se) by rw [HP.out, HSe.out]; simp [HQ.out, HS0.out])
      go_wp2_with (go_at_call 65; refine (someV _ _ _ _ HSe.out).mono ?_; rintro e w' ⟨rfl, rfl⟩)
      refine bodyPost_ret (v := .tuple #[.slice none 0 0, .int .i64 se]) (by simp [results, Try.results26, go_sem, *]) rfl ⟨none, 0, ?_, .inl ?_, BW⟩
      · rw [HR.out]; rfl
      · rw [HR.out]
  · have hq' : (q.2 != 0) = true := by simp [hq]
    have hq'' : (q.2 == 0) = false := by simp [hq]
    have HQ := hid hq; clear hq
    have HR := hid (show levelsP mean cs x n = ([], q.2) by rw [HP.out, if_pos HQ.out])
    go_wp2_with fail
    refine bodyPost_ret (v := .tuple #[.slice none 0 0, .int .i64 q.2]) (by simp [results, Try.results26, go_sem, *]) rfl ⟨none, 0, ?_, .inl ?_, BW⟩
    · rw [HR.out]; rfl
    · rw [HR.out]

/-! ### Spans and Ints: lists that are the same -/

set_option maxRecDepth 100000 in
set_option maxHeartbeats 1000000 in
theorem rspans_eq (l : List (Int × Int)) (a b : Option Addr) (ca cb : Nat) (w : World) (hl : l.length ≤ 140737488355328) (ha : SpansAt w a l) (hb : SpansAt w b l) :
    Calls Try.prog 27 #[.slice a l.length ca, .slice b l.length cb] w fun e w' => e = .returned (.bool true) ∧ Below w.heap.size w w' := by
  have HA := hid ha; have HB := hid hb; clear ha hb
  go_enter Try.func27, Try.ntmps27
  go_wp2_with fail
  go_loopw [5] (fun i wr => ∃ k : Nat, k ≤ l.length ∧ i = .int .i64 k ∧ Below w.heap.size w wr) (fun i _ => l.length - (intOf i).toNat)
  case atStart => exact ⟨0, Nat.zero_le _, rfl, Below.refl _ _⟩
  case round =>
    obtain ⟨k, hk, rfl, hbw⟩ := hrel
    by_cases hlt : k < l.length
    · rcases HA.out with h0 | ⟨b1, o1, rfl, hs1, hc1⟩
      · rw [h0] at hlt; simp at hlt
      rcases HB.out with h0 | ⟨b2, o2, rfl, hs2, hc2⟩
      · rw [h0] at hlt; simp at hlt
      have x0 := (hbw.cell (p := ⟨b1, o1 + k * 2, none⟩) hs1).trans (hc1 k hlt).1
      have x1 := (hbw.cell (p := ⟨b1, o1 + k * 2 + 1, none⟩) hs1).trans (hc1 k hlt).2
      have y0 := (hbw.cell (p := ⟨b2, o2 + k * 2, none⟩) hs2).trans (hc2 k hlt).1
      have y1 := (hbw.cell (p := ⟨b2, o2 + k * 2 + 1, none⟩) hs2).trans (hc2 k hlt).2
      clear hc1 hc2
      generalize l[k] = s at *
      have kl : (k : Int) < (l.length : Int) := by omega
      go_wp2_with fail
      go_quiet (fail)
      go_wp2_with fail
      refine ⟨⟨k + 1, by omega, by go_num, below_drewN hbw _⟩, by simp [intOf]; omega⟩
    · obtain rfl : k = l.length := by omega
      go_wp2_with fail
      go_ret
      exact ⟨rfl, hbw⟩

set_option maxRecDepth 100000 in
set_option maxHeartbeats 1000000 in
theorem rints_eq (l : List Int) (a b : Option Addr) (ca cb : Nat) (w : World) (hl : l.length ≤ 140737488355328) (ha : IntsAt w a l) (hb : IntsAt w b l) :
    Calls Try.prog 36 #[.slice a l.length ca, .slice b l.length cb] w fun e w' => e = .returned (.bool true) ∧ Below w.heap.size w w' := by
  have HA := hid ha; have HB := hid hb; clear ha hb
  go_enter Try.func36, Try.ntmps36
  go_wp2_with fail
  go_loopw [5] (fun i wr => ∃ k : Nat, k ≤ l.length ∧ i = .int .i64 k ∧ Below w.heap.size w wr) (fun i _ => l.length - (intOf i).toNat)
  case atStart => exact ⟨0, Nat.zero_le _, rfl, Below.refl _ _⟩
  case round =>
    obtain ⟨k, hk, rfl, hbw⟩ := hrel
    by_cases hlt : k < l.length
    · rcases HA.out with h0 | ⟨b1, o1, rfl, hs1, hc1⟩
      · rw [h0] at hlt; simp at hlt
      rcases HB.out with h0 | ⟨b2, o2, rfl, hs2, hc2⟩
      · rw [h0] at hlt; simp at hlt
      have x0 := (hbw.cell (p := ⟨b1, o1 + k, none⟩) hs1).trans (hc1 k hlt)
      have y0 := (hbw.cell (p := ⟨b2, o2 + k, none⟩) hs2).trans (hc2 k hlt)
      clear hc1 hc2
      generalize l[k] = s at *
      have kl : (k : Int) < (l.length : Int) := by omega
      go_wp2_with fail
      go_quiet (fail)
      go_wp2_with fail
      refine ⟨⟨k + 1, by omega, by go_num, below_drewN hbw _⟩, by simp [intOf]; omega⟩
    · obtain rfl : k = l.length := by omega
      go_wp2_with fail
      go_ret
      exact ⟨rfl, hbw⟩
end Go.Proofs.Ytblneiegekdnjaa
