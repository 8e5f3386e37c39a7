/- Tide, part N: Says and Level. -/
import Derived.Test.YtblneiegekdnjaaTM
set_option linter.all false
namespace Go.Proofs.Ytblneiegekdnjaa
open Go.RowKit

def saysP (g : Gau) (t now : Int) : (Int × Int) × Int :=
  if (gaugeP g).2.2 ≠ 0 then ((0, 0), (gaugeP g).2.2) else if (inB t 0 200000 && inB now 0 200000) = false then ((0, 0), 7) else sayP g t now

theorem saysP_eq (g : Gau) (t now : Int) : saysP g t now = if (gaugeP g).2.2 ≠ 0 then ((0, 0), (gaugeP g).2.2) else if (inB t 0 200000 && inB now 0 200000) = false then ((0, 0), 7) else sayP g t now := rfl

set_option maxRecDepth 100000 in
set_option maxHeartbeats 1000000 in
theorem saysFn_any (g : Gau) (p : GPos) (t now : Int) (w : World) (hok : GauOk w p g) :
    Calls Try.prog 30 #[.agg #[.string g.name, .int .i64 g.err, .int .i64 g.rate, .slice p.da g.ds.length p.dc, .slice p.ra g.rs.length p.rc], .int .i64 t, .int .i64 now] w
      fun e w' => e = .returned (.tuple #[.agg #[.int .i64 (saysP g t now).1.1, .int .i64 (saysP g t now).1.2], .int .i64 (saysP g t now).2]) ∧ Below w.heap.size w w' := by
  have HH := hid hok; clear hok
  have HP := hid (saysP_eq g t now)
  go_enter Try.func30, Try.ntmps30
  go_wp2_with fail
  generalize hW1 : World.alloc (World.alloc w _) _ = W1
  have B1 : Below w.heap.size w W1 := by rw [← hW1]; repeat (first | exact Below.refl _ _ | refine Below.alloc ?_ (by simp <;> omega) _)
  have S1 : w.heap.size + 1 < W1.heap.size := by rw [← hW1]; simp
  have hbox : GauBox W1 w.heap.size g p := by rw [← hW1]; exact ⟨by simp [go_sem], by simp [go_sem], by simp [go_sem], by simp [go_sem], by simp [go_sem]⟩
  have r0 : W1.cell? ⟨w.heap.size + 1, 0, none⟩ = some (.int .i64 0) := by rw [← hW1]; simp [go_sem]
  have r1 : W1.cell? ⟨w.heap.size + 1, 1, none⟩ = some (.int .i64 0) := by rw [← hW1]; simp [go_sem]
  have z0 : W1.frozen? ⟨w.heap.size + 1, 0, none⟩ = false := by rw [← hW1]; simp [go_sem]
  have z1 : W1.frozen? ⟨w.heap.size + 1, 1, none⟩ = false := by rw [← hW1]; simp [go_sem]
  clear hW1
  refine (checkGauge_any g p _ (HH.out.later B1 (Nat.le_refl _))).mono ?_
  rintro e W2 ⟨rfl, B2⟩
  have hs2 := B2.size
  obtain ⟨c0, c1, c2, c3, c4⟩ := hbox.later B2 (by omega)
  have t0 := (B2.cell (p := ⟨w.heap.size + 1, 0, none⟩) S1).trans r0
  have t1 := (B2.cell (p := ⟨w.heap.size + 1, 1, none⟩) S1).trans r1
  have u0 := (B2.frozen (p := ⟨w.heap.size + 1, 0, none⟩) S1).trans z0
  have u1 := (B2.frozen (p := ⟨w.heap.size + 1, 1, none⟩) S1).trans z1
  have BW : Below w.heap.size w W2 := B1.trans (B2.mono (by omega))
  clear hbox r0 r1 z0 z1
  have HGd := hid (fun h => gauGood (g := g) h)
  generalize gaugeP g = q at *
  by_cases hq : q.2.2 = 0
  · have hq' : (q.2.2 != 0) = false := by simp [hq]
    have HQ := hid hq; clear hq
    cases ht : inB t 0 200000
    · have HT := hid ht
      go_wp2_with (go_at_call 59; refine (isTick_val _ _ _ (by assumption)).mono ?_; rintro e w' ⟨rfl, rfl⟩)
      refine bodyPost_ret (v := .tuple #[.agg #[.int .i64 0, .int .i64 0], .int .i64 7]) (by simp [results, Try.results30, go_sem, *]) rfl ⟨by rw [HP.out]; simp [HQ.out, HT.out], ?_⟩
      repeat (first | exact BW | refine Below.setCell ?_ (by simp) _)
    · have HT := hid ht
      cases hn : inB now 0 200000
      · have HN := hid hn
        go_wp2_with (go_at_call 59; refine (isTick_val _ _ _ (by assumption)).mono ?_; rintro e w' ⟨rfl, rfl⟩)
        refine bodyPost_ret (v := .tuple #[.agg #[.int .i64 0, .int .i64 0], .int .i64 7]) (by simp [results, Try.results30, go_sem, *]) rfl ⟨by rw [HP.out]; simp [HQ.out, HT.out, HN.out], ?_⟩
        repeat (first | exact BW | refine Below.setCell ?_ (by simp) _)
      · have HN := hid hn
        go_wp2_with (go_at_call 59; refine (isTick_val _ _ _ (by assumption)).mono ?_; rintro e w' ⟨rfl, rfl⟩)
        refine (says_any g p t now _ (HH.out.later BW (Nat.le_refl _)) (HGd.out HQ.out) (inB_iff.1 HT.out)).mono ?_
        rintro e W3 ⟨rfl, B3⟩
        have HF := hid (show saysP g t now = sayP g t now by rw [HP.out]; simp [HQ.out, HT.out, HN.out])
        generalize sayP g t now = s at *
        have hs3 := B3.size
        have x0 := (B3.cell (p := ⟨w.heap.size + 1, 0, none⟩) (by simp; omega)).trans t0
        have x1 := (B3.cell (p := ⟨w.heap.size + 1, 1, none⟩) (by simp; omega)).trans t1
        have y0 := (B3.frozen (p := ⟨w.heap.size + 1, 0, none⟩) (by simp; omega)).trans u0
        have y1 := (B3.frozen (p := ⟨w.heap.size + 1, 1, none⟩) (by simp; omega)).trans u1
        have n1 : w.heap.size + 1 ≠ W3.heap.size := by omega
        have n2 : w.heap.size + 1 < W3.heap.size := by omega
        clear t0 t1 u0 u1 c0 c1 c2 c3 c4
        go_wp2_with fail
        refine bodyPost_ret (v := .tuple #[.agg #[.int .i64 s.1.1, .int .i64 s.1.2], .int .i64 s.2]) (by simp [results, Try.results30, go_sem, *]) rfl ⟨by rw [HF.out], ?_⟩
        repeat (first | exact BW.trans (B3.mono (by omega)) | refine Below.alloc ?_ (by simp <;> omega) _ | refine Below.setCell ?_ (by simp) _)
  · have hq' : (q.2.2 != 0) = true := by simp [hq]
    have HQ := hid hq; clear hq
    go_wp2_with fail
    refine bodyPost_ret (v := .tuple #[.agg #[.int .i64 0, .int .i64 0], .int .i64 q.2.2]) (by simp [results, Try.results30, go_sem, *]) rfl ⟨by rw [HP.out, if_pos HQ.out], ?_⟩
    repeat (first | exact BW | refine Below.setCell ?_ (by simp) _)

/-! ### Level -/

theorem conGood_of {before : List (List UInt8)} {c : Con} (h : conErr before c = 0) : nameB c.nm = true ∧ c.nm ∉ before ∧ ConGood c := by
  unfold conErr at h
  split at h; cases h
  rename_i h1
  split at h; cases h
  rename_i h2
  split at h; cases h
  rename_i h3
  split at h; cases h
  rename_i h4
  split at h; cases h
  rename_i h5
  simp only [Bool.not_eq_false] at h1 h3 h4 h5
  unfold numsB at h5
  simp only [Bool.and_eq_true] at h5
  obtain ⟨⟨⟨a, b⟩, c'⟩, d⟩ := h5
  have a := inB_iff.1 a; have b := inB_iff.1 b; have c' := inB_iff.1 c'; have d := inB_iff.1 d; have h3 := inB_iff.1 h3
  refine ⟨h1, h2, ⟨by omega, by omega, fun i hi => ?_, a.1, a.2, b.1, b.2, c'.1, c'.2, d.1, d.2⟩⟩
  have := List.all_eq_true.1 h4 c.hs[i] (List.getElem_mem _)
  exact inB_iff.1 this
/-- A table without an error. -/
theorem tabGood_of {mean : Int} {cs : List Con} (h : (checkP mean cs).2 = 0) : (-20000 ≤ mean ∧ mean ≤ 20000) ∧ cs.length ≤ 12 ∧ ∀ c ∈ cs, ConGood c := by
  unfold checkP at h
  split at h; cases h
  rename_i h1
  split at h; cases h
  rename_i h2
  refine ⟨inB_iff.1 (by simpa using h1), by omega, fun c hc => ?_⟩
  obtain ⟨i, hi, rfl⟩ := List.getElem_of_mem hc
  have := each_all h i (Nat.zero_le _) (by omega)
  unfold conAt at this
  rw [show cs.getD i default = cs[i] by simp [List.getD, hi]] at this
  exact (conGood_of this).2.2

def levelP (mean : Int) (cs : List Con) (t : Int) : (Int × Int) × Int :=
  if (checkP mean cs).2 ≠ 0 then ((0, 0), (checkP mean cs).2) else if inB t 0 200000 = false then ((0, 0), 7) else (levelAt mean cs t, 0)

theorem levelP_eq (mean : Int) (cs : List Con) (t : Int) : levelP mean cs t = if (checkP mean cs).2 ≠ 0 then ((0, 0), (checkP mean cs).2) else if inB t 0 200000 = false then ((0, 0), 7) else (levelAt mean cs t, 0) := rfl

set_option maxRecDepth 100000 in
set_option maxHeartbeats 1000000 in
theorem levelFn_any (mean : Int) (a : Option Addr) (cap : Nat) (cs : List Con) (t : Int) (w : World) (hok : ConsOk w a cap cs) :
    Calls Try.prog 23 #[.agg #[.int .i64 mean, .slice a cs.length cap], .int .i64 t] w
      fun e w' => e = .returned (.tuple #[.agg #[.int .i64 (levelP mean cs t).1.1, .int .i64 (levelP mean cs t).1.2], .int .i64 (levelP mean cs t).2]) ∧ Below w.heap.size w w' := by
  have HH := hid hok; clear hok
  have HP := hid (levelP_eq mean cs t)
  go_enter Try.func23, Try.ntmps23
  go_wp2_with fail
  generalize hW1 : World.alloc (World.alloc w _) _ = W1
  have B1 : Below w.heap.size w W1 := by rw [← hW1]; repeat (first | exact Below.refl _ _ | refine Below.alloc ?_ (by simp <;> omega) _)
  have S1 : w.heap.size + 1 < W1.heap.size := by rw [← hW1]; simp
  have b0 : W1.cell? ⟨w.heap.size, 0, none⟩ = some (.int .i64 mean) := by rw [← hW1]; simp [go_sem]
  have b1 : W1.cell? ⟨w.heap.size, 1, none⟩ = some (.slice a cs.length cap) := by rw [← hW1]; simp [go_sem]
  have r0 : W1.cell? ⟨w.heap.size + 1, 0, none⟩ = some (.int .i64 0) := by rw [← hW1]; simp [go_sem]
  have r1 : W1.cell? ⟨w.heap.size + 1, 1, none⟩ = some (.int .i64 0) := by rw [← hW1]; simp [go_sem]
  have z0 : W1.frozen? ⟨w.heap.size + 1, 0, none⟩ = false := by rw [← hW1]; simp [go_sem]
  have z1 : W1.frozen? ⟨w.heap.size + 1, 1, none⟩ = false := by rw [← hW1]; simp [go_sem]
  clear hW1
  refine (check_any mean a cap cs _ (HH.out.later B1 (Nat.le_refl _))).mono ?_
  rintro e W2 ⟨rfl, B2⟩
  have hs2 := B2.size
  have c0 := (B2.cell (p := ⟨w.heap.size, 0, none⟩) (by simp; omega)).trans b0
  have c1 := (B2.cell (p := ⟨w.heap.size, 1, none⟩) (by simp; omega)).trans b1
  have t0 := (B2.cell (p := ⟨w.heap.size + 1, 0, none⟩) S1).trans r0
  have t1 := (B2.cell (p := ⟨w.heap.size + 1, 1, none⟩) S1).trans r1
  have u0 := (B2.frozen (p := ⟨w.heap.size + 1, 0, none⟩) S1).trans z0
  have u1 := (B2.frozen (p := ⟨w.heap.size + 1, 1, none⟩) S1).trans z1
  have BW : Below w.heap.size w W2 := B1.trans (B2.mono (by omega))
  clear b0 b1 r0 r1 z0 z1
  have HGd := hid (fun h => tabGood_of (mean := mean) (cs := cs) h)
  generalize checkP mean cs = q at *
  by_cases hq : q.2 = 0
  · have hq' : (q.2 != 0) = false := by simp [hq]
    have HQ := hid hq; clear hq
    cases ht : inB t 0 200000
    · have HT := hid ht
      go_wp2_with (go_at_call 59; refine (isTick_val _ _ _ (by assumption)).mono ?_; rintro e w' ⟨rfl, rfl⟩)
      refine bodyPost_ret (v := .tuple #[.agg #[.int .i64 0, .int .i64 0], .int .i64 7]) (by simp [results, Try.results23, go_sem, *]) rfl ⟨by rw [HP.out]; simp [HQ.out, HT.out], ?_⟩
      repeat (first | exact BW | refine Below.setCell ?_ (by simp) _)
    · have HT := hid ht
      have hGd := HGd.out HQ.out
      have htb := inB_iff.1 HT.out
      go_wp2_with (go_at_call 59; refine (isTick_val _ _ _ (by assumption)).mono ?_; rintro e w' ⟨rfl, rfl⟩)
      refine Calls.mono (levelsOf_any mean t a cap 1 cs _ (HH.out.later BW (Nat.le_refl _)) hGd.2.2 hGd.1 (by omega) (.inr ⟨htb.1, by omega⟩) hGd.2.1) ?_
      rintro e W3 ⟨lb, rfl, hl1, hl2, hrow, B3⟩
      have HF := hid (show levelP mean cs t = (levelAt mean cs t, 0) by rw [HP.out]; simp [HQ.out, HT.out])
      have l0 := hrow.lo 0 (by omega)
      have l1 := hrow.hi 0 (by omega)
      simp only [Nat.zero_mul, Nat.zero_add, Int.natCast_zero, Int.add_zero] at l0 l1
      clear hrow hGd HGd
      generalize levelAt mean cs t = s at *
      have hs3 := B3.size
      have x0 := (B3.cell (p := ⟨w.heap.size + 1, 0, none⟩) (by simp; omega)).trans t0
      have x1 := (B3.cell (p := ⟨w.heap.size + 1, 1, none⟩) (by simp; omega)).trans t1
      have y0 := (B3.frozen (p := ⟨w.heap.size + 1, 0, none⟩) (by simp; omega)).trans u0
      have y1 := (B3.frozen (p := ⟨w.heap.size + 1, 1, none⟩) (by simp; omega)).trans u1
      clear t0 t1 u0 u1 c0 c1
      go_wp2_with fail
      refine bodyPost_ret (v := .tuple #[.agg #[.int .i64 s.1, .int .i64 s.2], .int .i64 0]) (by simp [results, Try.results23, go_sem, *]) rfl ⟨by rw [HF.out], ?_⟩
      repeat (first | exact BW.trans (B3.mono (by omega)) | refine Below.alloc ?_ (by simp <;> omega) _ | refine Below.setCell ?_ (by simp) _)
  · have hq' : (q.2 != 0) = true := by simp [hq]
    have HQ := hid hq; clear hq
    go_wp2_with fail
    refine bodyPost_ret (v := .tuple #[.agg #[.int .i64 0, .int .i64 0], .int .i64 q.2]) (by simp [results, Try.results23, go_sem, *]) rfl ⟨by rw [HP.out, if_pos HQ.out], ?_⟩
    repeat (first | exact BW | refine Below.setCell ?_ (by simp) _)
end Go.Proofs.Ytblneiegekdnjaa
