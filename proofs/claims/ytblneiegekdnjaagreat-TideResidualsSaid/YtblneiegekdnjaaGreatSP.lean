/- Tide, part SP: Residual. -/
import Derived.Test.YtblneiegekdnjaaGreatSI
set_option linter.all false
namespace Go.Proofs.YtblneiegekdnjaaGreat
open Go.RowKit Go.Shelf

theorem cnt_bd {V : List Voice} (hV : ∀ v ∈ V, VoiceOk v) {x : Int} (h : 1 ≤ cnt V x) : -20000 ≤ x ∧ x ≤ 20000 := by
  unfold cnt at h
  obtain ⟨v, hv, hd⟩ := List.countP_pos_iff.1 (show 0 < _ from h)
  have hx := of_decide_eq_true hd
  have := hV v hv
  have h1 := this.lo; have h2 := this.hi
  omega
/-- Where Sound finds a level. -/
theorem soundIs_ok {gs : List Gau} {wrong t now : Int} {r : (Int × Int) × Int} (h : SoundIs gs wrong t now r) (h0 : r.2 = 0) :
    askE gs t now = 0 ∧ (0 ≤ wrong ∧ wrong ≤ (gs.length : Int) - 1) ∧ (0 ≤ t ∧ t ≤ 200000) ∧ (-20000 ≤ r.1.1 ∧ r.1.1 ≤ 20000) ∧ (-20000 ≤ r.1.2 ∧ r.1.2 ≤ 20000) ∧ SoundRes (voiceL gs t now gs.length) ((gs.length : Int) - wrong) r := by
  unfold SoundIs at h
  split at h
  · rename_i h1; rw [h] at h0; exact absurd h0 h1
  rename_i h1
  split at h
  · rw [h] at h0; cases h0
  rename_i h2
  have ha : askE gs t now = 0 := Decidable.not_not.1 h1
  have hw := Decidable.not_not.1 h2
  refine ⟨ha, hw, (askE_ok ha).2.2.2.1, ?_⟩
  rcases h with ⟨rfl, _⟩ | ⟨h3, h4, h5, h6⟩
  · cases h0
  · exact ⟨cnt_bd (voiceL_oks gs t now gs.length) (by omega), cnt_bd (voiceL_oks gs t now gs.length) (by omega), .inr ⟨h3, h4, h5, h6⟩⟩
/-- What Residual returns. -/
def ResIs (mean : Int) (cs : List Con) (gs : List Gau) (wrong t now : Int) (q : (Int × Int) × Int) : Prop :=
  if (checkP mean cs).2 ≠ 0 then q = ((0, 0), (checkP mean cs).2) else ∃ r, SoundIs gs wrong t now r ∧ q = if r.2 ≠ 0 then ((0, 0), r.2) else ((r.1.1 - (levelAt mean cs t).2, r.1.2 - (levelAt mean cs t).1), 0)
theorem ResIs.unique {mean : Int} {cs : List Con} {gs : List Gau} {wrong t now : Int} {q p : (Int × Int) × Int} (h : ResIs mean cs gs wrong t now q) (k : ResIs mean cs gs wrong t now p) : q = p := by
  unfold ResIs at h k
  split at h
  · rename_i h1; rw [if_pos h1] at k; rw [h, k]
  · rename_i h1; rw [if_neg h1] at k
    obtain ⟨r, hr, hq⟩ := h
    obtain ⟨s, hs, hp⟩ := k
    rw [hq, hp, hr.unique hs]

theorem fld0 (a b : Int) (w : World) : Sem.run Tryz.prog (Instr.field 62 (.agg #[.int .i64 a, .int .i64 b]) 0) w = .ok (.agg #[.int .i64 a, .int .i64 b]) w := by simp [go_sem, Instr.field, asAgg]
set_option maxRecDepth 100000 in
set_option maxHeartbeats 4000000 in
theorem residual_any (mean : Int) (ca : Option Addr) (cc : Nat) (cs : List Con) (a : Option Addr) (cap : Nat) (gs : List Gau) (wrong t now : Int) (w : World) (hok : ConsOk w ca cc cs) (hcap : gs.length ≤ cap) (hlen : gs.length ≤ 140737488355328) (hgs : GausAt w a gs) :
    Calls Tryz.prog 11 #[.agg #[.int .i64 mean, .slice ca cs.length cc], .slice a gs.length cap, .int .i64 wrong, .int .i64 t, .int .i64 now] w
      fun e w' => ∃ q : (Int × Int) × Int, e = .returned (.tuple #[.agg #[.int .i64 q.1.1, .int .i64 q.1.2], .int .i64 q.2]) ∧ ResIs mean cs gs wrong t now q ∧ Below w.heap.size w w' := by
  have HH := hid hok; have HGs := hid hgs; clear hok hgs
  go_enter Tryz.func11, Tryz.ntmps11
  go_wp2_with fail
  generalize hW1 : World.alloc (World.alloc w _) _ = W1
  have B1 : Below w.heap.size w W1 := by rw [← hW1]; repeat (first | exact Below.refl _ _ | refine Below.alloc ?_ (by simp <;> omega) _)
  have S1 : w.heap.size + 1 < W1.heap.size := by rw [← hW1]; simp
  have b0 : W1.cell? ⟨w.heap.size, 0, none⟩ = some (.int .i64 mean) := by rw [← hW1]; simp [go_sem]
  have b1 : W1.cell? ⟨w.heap.size, 1, none⟩ = some (.slice ca cs.length cc) := by rw [← hW1]; simp [go_sem]
  have r0 : W1.cell? ⟨w.heap.size + 1, 0, none⟩ = some (.int .i64 0) := by rw [← hW1]; simp [go_sem]
  have r1 : W1.cell? ⟨w.heap.size + 1, 1, none⟩ = some (.int .i64 0) := by rw [← hW1]; simp [go_sem]
  have z0 : W1.frozen? ⟨w.heap.size + 1, 0, none⟩ = false := by rw [← hW1]; simp [go_sem]
  have z1 : W1.frozen? ⟨w.heap.size + 1, 1, none⟩ = false := by rw [← hW1]; simp [go_sem]
  clear hW1
  refine (check_any mean ca cc cs _ (HH.out.later B1 (Nat.le_refl _))).mono ?_
  rintro e W2 ⟨rfl, B2⟩
  have hs2 := B2.size
  have c0 := (B2.cell (p := ⟨w.heap.size, 0, none⟩) (by simp; omega)).trans b0
  have c1 := (B2.cell (p := ⟨w.heap.size, 1, none⟩) (by simp; omega)).trans b1
  have t0 := (B2.cell (p := ⟨w.heap.size + 1, 0, none⟩) S1).trans r0
  have t1 := (B2.cell (p := ⟨w.heap.size + 1, 1, none⟩) S1).trans r1
  have u0 := (B2.frozen (p := ⟨w.heap.size + 1, 0, none⟩) S1).trans z0
  have u1 := (B2.frozen (p := ⟨w.heap.size + 1, 1, none⟩) S1).trans z1
  have BW : Below w.heap.size w W2 := B1.trans (B2.mono (by omega))
  clear b0 b1 r0 r1 z0 z1 B2
  have HGd := hid (fun h => tabGood_of (mean := mean) (cs := cs) h)
  have HR := hid (show ∀ q, ResIs mean cs gs wrong t now q ↔ if (checkP mean cs).2 ≠ 0 then q = ((0, 0), (checkP mean cs).2) else ∃ r, SoundIs gs wrong t now r ∧ q = if r.2 ≠ 0 then ((0, 0), r.2) else ((r.1.1 - (levelAt mean cs t).2, r.1.2 - (levelAt mean cs t).1), 0) from fun q => Iff.rfl)
  generalize checkP mean cs = q at *
  by_cases hq : q.2 = 0
  · have hq' : (q.2 != 0) = false := by simp [hq]
    have HQ := hid hq; clear hq
    go_wp2_with fail
    refine (sound_any a cap gs wrong t now _ hcap hlen (HGs.out.later BW (Nat.le_refl _))).mono ?_
    rintro e W3 ⟨r, rfl, hr, B3⟩
    have hs3 := B3.size
    have BW3 : Below w.heap.size w W3 := BW.trans (B3.mono (by omega))
    have d0 := (B3.cell (p := ⟨w.heap.size, 0, none⟩) (by simp; omega)).trans c0
    have d1 := (B3.cell (p := ⟨w.heap.size, 1, none⟩) (by simp; omega)).trans c1
    have x0 := (B3.cell (p := ⟨w.heap.size + 1, 0, none⟩) (by simp; omega)).trans t0
    have x1 := (B3.cell (p := ⟨w.heap.size + 1, 1, none⟩) (by simp; omega)).trans t1
    have y0 := (B3.frozen (p := ⟨w.heap.size + 1, 0, none⟩) (by simp; omega)).trans u0
    have y1 := (B3.frozen (p := ⟨w.heap.size + 1, 1, none⟩) (by simp; omega)).trans u1
    have lw0 : w.heap.size < W3.heap.size := by omega
    have lw1 : w.heap.size + 1 < W3.heap.size := by omega
    have HSo := hid (fun h => soundIs_ok hr h)
    have HRs := hid (show ResIs mean cs gs wrong t now (if r.2 ≠ 0 then ((0, 0), r.2) else ((r.1.1 - (levelAt mean cs t).2, r.1.2 - (levelAt mean cs t).1), 0)) from (HR.out _).2 (by rw [if_neg (by simp [HQ.out])]; exact ⟨r, hr, rfl⟩))
    clear c0 c1 t0 t1 u0 u1 B3 hr HR
    by_cases hr0 : r.2 = 0
    · have hr' : (r.2 != 0) = false := by simp [hr0]
      obtain ⟨_, _, ht, hlo, hhi, _⟩ := HSo.out hr0
      have HRr := hid (show ResIs mean cs gs wrong t now ((r.1.1 - (levelAt mean cs t).2, r.1.2 - (levelAt mean cs t).1), 0) by have := HRs.out; rwa [if_neg (by simp [hr0])] at this)
      have hGd := HGd.out HQ.out
      have hlh := levelAt_half hGd.2.2 hGd.2.1 hGd.1.1 hGd.1.2 t
      clear HSo HRs hr0
      go_wp2_with fail
      refine Calls.mono (levelsOf_any mean t ca cc 1 cs _ (HH.out.later (BW3.alloc (by omega) _) (Nat.le_refl _)) hGd.2.2 hGd.1 (by omega) (.inr ⟨ht.1, by omega⟩) hGd.2.1) ?_
      rintro e W4 ⟨lb, rfl, hl1, hl2, hrow, B4⟩
      have l0 := hrow.lo 0 (by omega)
      have l1 := hrow.hi 0 (by omega)
      simp only [Nat.zero_mul, Nat.zero_add, Int.natCast_zero, Int.add_zero] at l0 l1
      clear hrow hGd HGd
      generalize levelAt mean cs t = s at *
      have BA : Below W3.heap.size W3 W4 := ((Below.refl _ _).alloc (Nat.le_refl _) _).trans (B4.mono (by simp))
      have hs4 := B4.size
      simp only [World.size_alloc] at hs4 hl1
      have p0 : W4.cell? ⟨W3.heap.size, 0, none⟩ = some (.int .i64 r.1.1) := (B4.cell (p := ⟨W3.heap.size, 0, none⟩) (by simp)).trans (by simp [go_sem])
      have p1 : W4.cell? ⟨W3.heap.size, 1, none⟩ = some (.int .i64 r.1.2) := (B4.cell (p := ⟨W3.heap.size, 1, none⟩) (by simp)).trans (by simp [go_sem])
      have x0' := (BA.cell (p := ⟨w.heap.size + 1, 0, none⟩) lw1).trans x0
      have x1' := (BA.cell (p := ⟨w.heap.size + 1, 1, none⟩) lw1).trans x1
      have y0' := (BA.frozen (p := ⟨w.heap.size + 1, 0, none⟩) lw1).trans y0
      have y1' := (BA.frozen (p := ⟨w.heap.size + 1, 1, none⟩) lw1).trans y1
      have BW4 : Below w.heap.size w W4 := BW3.trans (BA.mono (by omega))
      have lv0 : W3.heap.size < W4.heap.size := by omega
      have lv1 : w.heap.size + 1 < W4.heap.size := by omega
      clear x0 x1 y0 y1 d0 d1 B4 BA
      go_wp2_with fail
      refine (less_any _ _ _ _ _ ⟨by omega, by omega⟩ ⟨by omega, by omega⟩ ⟨by omega, by omega⟩ ⟨by omega, by omega⟩).mono ?_
      rintro e W5 ⟨rfl, B5⟩
      have hs5 := B5.size
      simp only [World.size_alloc] at hs5
      have BC : Below W4.heap.size W4 W5 := ((Below.refl _ _).alloc (Nat.le_refl _) _).trans (B5.mono (by simp))
      have x0 := (BC.cell (p := ⟨w.heap.size + 1, 0, none⟩) lv1).trans x0'
      have x1 := (BC.cell (p := ⟨w.heap.size + 1, 1, none⟩) lv1).trans x1'
      have y0 := (BC.frozen (p := ⟨w.heap.size + 1, 0, none⟩) lv1).trans y0'
      have y1 := (BC.frozen (p := ⟨w.heap.size + 1, 1, none⟩) lv1).trans y1'
      have BW5 : Below w.heap.size w W5 := BW4.trans (BC.mono (by omega))
      clear x0' x1' y0' y1' p0 p1 B5 BC l0 l1
      have hfl := fld0 (r.1.1 - s.2) (r.1.2 - s.1) W5
      go_wp2_with fail
      refine bodyPost_ret (v := .tuple #[.agg #[.int .i64 (r.1.1 - s.2), .int .i64 (r.1.2 - s.1)], .int .i64 0]) (by simp [results, Tryz.results11, go_sem, *]) rfl ⟨((r.1.1 - s.2, r.1.2 - s.1), (0 : Int)), rfl, HRr.out, ?_⟩
      repeat (first | exact BW5 | refine Below.setCell ?_ (by simp) _)
    · have hr' : (r.2 != 0) = true := by simp [hr0]
      have HRr := hid (show ResIs mean cs gs wrong t now ((0, 0), r.2) by have := HRs.out; rwa [if_pos hr0] at this)
      clear HSo HRs hr0
      go_wp2_with fail
      have k0 : ((W3.setCell ⟨w.heap.size + 1, 0, none⟩ (.int .i64 0)).setCell ⟨w.heap.size + 1, 1, none⟩ (.int .i64 0)).cell? ⟨w.heap.size + 1, 0, none⟩ = some (.int .i64 0) := (World.cell?_setCell_other _ _ _ _ (by simp)).trans (World.cell?_setCell_same' _ _ _ (by rw [x0]; rfl))
      have k1 : ((W3.setCell ⟨w.heap.size + 1, 0, none⟩ (.int .i64 0)).setCell ⟨w.heap.size + 1, 1, none⟩ (.int .i64 0)).cell? ⟨w.heap.size + 1, 1, none⟩ = some (.int .i64 0) := World.cell?_setCell_same' _ _ _ (by rw [World.cell?_setCell_other _ _ _ _ (by simp), x1]; rfl)
      have BV : Below w.heap.size w ((W3.setCell ⟨w.heap.size + 1, 0, none⟩ (.int .i64 0)).setCell ⟨w.heap.size + 1, 1, none⟩ (.int .i64 0)) := (BW3.setCell (p := ⟨w.heap.size + 1, 0, none⟩) (by simp) _).setCell (p := ⟨w.heap.size + 1, 1, none⟩) (by simp) _
      have hsV : ((W3.setCell ⟨w.heap.size + 1, 0, none⟩ (.int .i64 0)).setCell ⟨w.heap.size + 1, 1, none⟩ (.int .i64 0)).heap.size = W3.heap.size := by simp
      generalize ((W3.setCell ⟨w.heap.size + 1, 0, none⟩ (.int .i64 0)).setCell ⟨w.heap.size + 1, 1, none⟩ (.int .i64 0)) = V at *
      have lV : w.heap.size + 1 < V.heap.size := by omega
      refine bodyPost_ret (v := .tuple #[.agg #[.int .i64 0, .int .i64 0], .int .i64 r.2]) (by simp [results, Tryz.results11, go_sem, k0, k1, lV]) rfl ⟨((0, 0), r.2), rfl, HRr.out, BV.alloc (by omega) _⟩
  · have hq' : (q.2 != 0) = true := by simp [hq]
    have HQ := hid hq; clear hq
    go_wp2_with fail
    refine bodyPost_ret (v := .tuple #[.agg #[.int .i64 0, .int .i64 0], .int .i64 q.2]) (by simp [results, Tryz.results11, go_sem, *]) rfl ⟨((0, 0), q.2), rfl, (HR.out _).2 (by rw [if_pos HQ.out]), ?_⟩
    repeat (first | exact BW | refine Below.setCell ?_ (by simp) _)
end Go.Proofs.YtblneiegekdnjaaGreat
