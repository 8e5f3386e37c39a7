/- Tide, part OR: the reference's Residual; the walk of TideResiduals (great seat). -/
import Derived.Test.YtblneiegekdnjaaGreatSP
import Derived.Test.YtblneiegekdnjaaGreatSM
import Derived.Test.YtblneiegekdnjaaGreatZB
import Derived.Test.YtblneiegekdnjaaGreatTP
set_option linter.all false
namespace Go.Proofs.YtblneiegekdnjaaGreat
open Go.RowKit Go.Shelf

set_option maxRecDepth 100000 in
set_option maxHeartbeats 4000000 in
theorem rresidual_any (mean : Int) (ca : Option Addr) (cc : Nat) (cs : List Con) (a : Option Addr) (cap : Nat) (gs : List Gau) (wrong t now : Int) (w : World) (hok : ConsOk w ca cc cs) (hlen : gs.length ≤ 140737488355328) (hgs : GausAt w a gs) :
    Calls Tryz.prog 12 #[.agg #[.int .i64 mean, .slice ca cs.length cc], .slice a gs.length cap, .int .i64 wrong, .int .i64 t, .int .i64 now] w
      fun e w' => ∃ q : (Int × Int) × Int, e = .returned (.tuple #[.agg #[.int .i64 q.1.1, .int .i64 q.1.2], .int .i64 q.2]) ∧ ResIs mean cs gs wrong t now q ∧ Below w.heap.size w w' := by
  have HH := hid hok; have HGs := hid hgs; clear hok hgs
  go_enter Tryz.func12, Tryz.ntmps12
  go_wp2_with fail
  generalize hW1 : World.alloc (World.alloc w _) _ = W1
  have B1 : Below w.heap.size w W1 := by rw [← hW1]; repeat (first | exact Below.refl _ _ | refine Below.alloc ?_ (by simp <;> omega) _)
  have S1 : w.heap.size + 1 < W1.heap.size := by rw [← hW1]; simp
  have b0 : W1.cell? ⟨w.heap.size, 0, none⟩ = some (.int .i64 mean) := by rw [← hW1]; simp [go_sem]
  have b1 : W1.cell? ⟨w.heap.size, 1, none⟩ = some (.slice ca cs.length cc) := by rw [← hW1]; simp [go_sem]
  have r0 : W1.cell? ⟨w.heap.size + 1, 0, none⟩ = some (.int .i64 0) := by rw [← hW1]; simp [go_sem]
  have r1 : W1.cell? ⟨w.heap.size + 1, 1, none⟩ = some (.int .i64 0) := by rw [← hW1]; simp [go_sem]
  have z0 : W1.frozen? ⟨w.heap.size + 1, 0, none⟩ = false := by rw [← hW1]; simp [go_sem]
  have z1 : W1.frozen? ⟨w.heap.size + 1, 1, none⟩ = false := by rw [← hW1]; simp [go_sem]
  clear hW1
  refine (rcheck_any mean ca cc cs _ (HH.out.later B1 (Nat.le_refl _))).mono ?_
  rintro e W2 ⟨rfl, B2⟩
  have hs2 := B2.size
  have c0 := (B2.cell (p := ⟨w.heap.size, 0, none⟩) (by simp; omega)).trans b0
  have c1 := (B2.cell (p := ⟨w.heap.size, 1, none⟩) (by simp; omega)).trans b1
  have t0 := (B2.cell (p := ⟨w.heap.size + 1, 0, none⟩) S1).trans r0
  have t1 := (B2.cell (p := ⟨w.heap.size + 1, 1, none⟩) S1).trans r1
  have u0 := (B2.frozen (p := ⟨w.heap.size + 1, 0, none⟩) S1).trans z0
  have u1 := (B2.frozen (p := ⟨w.heap.size + 1, 1, none⟩) S1).trans z1
  have BW : Below w.heap.size w W2 := B1.trans (B2.mono (by omega))
  clear b0 b1 r0 r1 z0 z1 B2
  have HGd := hid (fun h => tabGood_of (mean := mean) (cs := cs) h)
  have HR := hid (show ∀ q, ResIs mean cs gs wrong t now q ↔ if (checkP mean cs).2 ≠ 0 then q = ((0, 0), (checkP mean cs).2) else ∃ r, SoundIs gs wrong t now r ∧ q = if r.2 ≠ 0 then ((0, 0), r.2) else ((r.1.1 - (levelAt mean cs t).2, r.1.2 - (levelAt mean cs t).1), 0) from fun q => Iff.rfl)
  generalize checkP mean cs = q at *
  by_cases hq : q.2 = 0
  · have hq' : (q.2 != 0) = false := by simp [hq]
    have HQ := hid hq; clear hq
    go_wp2_with fail
    refine (rsound_any a cap gs wrong t now _ hlen (HGs.out.later BW (Nat.le_refl _))).mono ?_
    rintro e W3 ⟨r, rfl, hr, B3⟩
    have hs3 := B3.size
    have BW3 : Below w.heap.size w W3 := BW.trans (B3.mono (by omega))
    have d0 := (B3.cell (p := ⟨w.heap.size, 0, none⟩) (by simp; omega)).trans c0
    have d1 := (B3.cell (p := ⟨w.heap.size, 1, none⟩) (by simp; omega)).trans c1
    have x0 := (B3.cell (p := ⟨w.heap.size + 1, 0, none⟩) (by simp; omega)).trans t0
    have x1 := (B3.cell (p := ⟨w.heap.size + 1, 1, none⟩) (by simp; omega)).trans t1
    have y0 := (B3.frozen (p := ⟨w.heap.size + 1, 0, none⟩) (by simp; omega)).trans u0
    have y1 := (B3.frozen (p := ⟨w.heap.size + 1, 1, none⟩) (by simp; omega)).trans u1
    have lw0 : w.heap.size < W3.heap.size := by omega
    have lw1 : w.heap.size + 1 < W3.heap.size := by omega
    have HSo := hid (fun h => soundIs_ok hr h)
    have HRs := hid (show ResIs mean cs gs wrong t now (if r.2 ≠ 0 then ((0, 0), r.2) else ((r.1.1 - (levelAt mean cs t).2, r.1.2 - (levelAt mean cs t).1), 0)) from (HR.out _).2 (by rw [if_neg (by simp [HQ.out])]; exact ⟨r, hr, rfl⟩))
    clear c0 c1 t0 t1 u0 u1 B3 hr HR
    by_cases hr0 : r.2 = 0
    · have hr' : (r.2 != 0) = false := by simp [hr0]
      obtain ⟨_, _, ht, hlo, hhi, _⟩ := HSo.out hr0
      have HRr := hid (show ResIs mean cs gs wrong t now ((r.1.1 - (levelAt mean cs t).2, r.1.2 - (levelAt mean cs t).1), 0) by have := HRs.out; rwa [if_neg (by simp [hr0])] at this)
      have hGd := HGd.out HQ.out
      have hlh := levelAt_half hGd.2.2 hGd.2.1 hGd.1.1 hGd.1.2 t
      clear HSo HRs hr0
      go_wp2_with fail
      refine Calls.mono (rlevel_any mean t ca cc cs _ (HH.out.later (BW3.alloc (by omega) _) (Nat.le_refl _)) hGd.2.2 hGd.1 ht hGd.2.1) ?_
      rintro e W4 ⟨rfl, B4⟩
      clear hGd HGd
      generalize levelAt mean cs t = s at *
      have BA : Below W3.heap.size W3 W4 := ((Below.refl _ _).alloc (Nat.le_refl _) _).trans (B4.mono (by simp))
      have hs4 := B4.size
      simp only [World.size_alloc] at hs4
      have p0 : W4.cell? ⟨W3.heap.size, 0, none⟩ = some (.int .i64 r.1.1) := (B4.cell (p := ⟨W3.heap.size, 0, none⟩) (by simp)).trans (by simp [go_sem])
      have p1 : W4.cell? ⟨W3.heap.size, 1, none⟩ = some (.int .i64 r.1.2) := (B4.cell (p := ⟨W3.heap.size, 1, none⟩) (by simp)).trans (by simp [go_sem])
      have x0' := (BA.cell (p := ⟨w.heap.size + 1, 0, none⟩) lw1).trans x0
      have x1' := (BA.cell (p := ⟨w.heap.size + 1, 1, none⟩) lw1).trans x1
      have y0' := (BA.frozen (p := ⟨w.heap.size + 1, 0, none⟩) lw1).trans y0
      have y1' := (BA.frozen (p := ⟨w.heap.size + 1, 1, none⟩) lw1).trans y1
      have BW4 : Below w.heap.size w W4 := BW3.trans (BA.mono (by omega))
      have lv0 : W3.heap.size < W4.heap.size := by omega
      have lv1 : w.heap.size + 1 < W4.heap.size := by omega
      clear x0 x1 y0 y1 d0 d1 B4 BA
      go_wp2_with fail
      refine bodyPost_ret (v := .tuple #[.agg #[.int .i64 (r.1.1 - s.2), .int .i64 (r.1.2 - s.1)], .int .i64 0]) (by simp [results, Tryz.results12, go_sem, *]) rfl ⟨((r.1.1 - s.2, r.1.2 - s.1), (0 : Int)), rfl, HRr.out, ?_⟩
      repeat (first | exact BW4 | refine Below.alloc ?_ (by simp <;> omega) _ | refine Below.drew ?_ | refine below_drewN ?_ _ | refine Below.setCell ?_ (by simp) _)
    · have hr' : (r.2 != 0) = true := by simp [hr0]
      have HRr := hid (show ResIs mean cs gs wrong t now ((0, 0), r.2) by have := HRs.out; rwa [if_pos hr0] at this)
      clear HSo HRs hr0
      go_wp2_with fail
      have k0 : ((W3.setCell ⟨w.heap.size + 1, 0, none⟩ (.int .i64 0)).setCell ⟨w.heap.size + 1, 1, none⟩ (.int .i64 0)).cell? ⟨w.heap.size + 1, 0, none⟩ = some (.int .i64 0) := (World.cell?_setCell_other _ _ _ _ (by simp)).trans (World.cell?_setCell_same' _ _ _ (by rw [x0]; rfl))
      have k1 : ((W3.setCell ⟨w.heap.size + 1, 0, none⟩ (.int .i64 0)).setCell ⟨w.heap.size + 1, 1, none⟩ (.int .i64 0)).cell? ⟨w.heap.size + 1, 1, none⟩ = some (.int .i64 0) := World.cell?_setCell_same' _ _ _ (by rw [World.cell?_setCell_other _ _ _ _ (by simp), x1]; rfl)
      have BV : Below w.heap.size w ((W3.setCell ⟨w.heap.size + 1, 0, none⟩ (.int .i64 0)).setCell ⟨w.heap.size + 1, 1, none⟩ (.int .i64 0)) := (BW3.setCell (p := ⟨w.heap.size + 1, 0, none⟩) (by simp) _).setCell (p := ⟨w.heap.size + 1, 1, none⟩) (by simp) _
      have hsV : ((W3.setCell ⟨w.heap.size + 1, 0, none⟩ (.int .i64 0)).setCell ⟨w.heap.size + 1, 1, none⟩ (.int .i64 0)).heap.size = W3.heap.size := by simp
      generalize ((W3.setCell ⟨w.heap.size + 1, 0, none⟩ (.int .i64 0)).setCell ⟨w.heap.size + 1, 1, none⟩ (.int .i64 0)) = V at *
      have lV : w.heap.size + 1 < V.heap.size := by omega
      refine bodyPost_ret (v := .tuple #[.agg #[.int .i64 0, .int .i64 0], .int .i64 r.2]) (by simp [results, Tryz.results12, go_sem, k0, k1, lV]) rfl ⟨((0, 0), r.2), rfl, HRr.out, BV.alloc (by omega) _⟩
  · have hq' : (q.2 != 0) = true := by simp [hq]
    have HQ := hid hq; clear hq
    go_wp2_with fail
    refine bodyPost_ret (v := .tuple #[.agg #[.int .i64 0, .int .i64 0], .int .i64 q.2]) (by simp [results, Tryz.results12, go_sem, *]) rfl ⟨((0, 0), q.2), rfl, (HR.out _).2 (by rw [if_pos HQ.out]), ?_⟩
    repeat (first | exact BW | refine Below.setCell ?_ (by simp) _)

set_option maxRecDepth 100000 in
set_option maxHeartbeats 8000000 in
theorem lawResiduals_any (mean : Int) (ca : Option Addr) (cc : Nat) (cs : List Con) (a : Option Addr) (cap : Nat) (gs : List Gau) (x y z : Int) (w : World) (hok : ConsOk w ca cc cs) (hcap : gs.length ≤ cap) (hlen : gs.length ≤ 140737488355328) (hgs : GausAt w a gs) :
    Calls Tryz.prog 4 #[.agg #[.int .i64 mean, .slice ca cs.length cc], .slice a gs.length cap, .agg #[.int .i64 x, .int .i64 y, .int .i64 z]] w
      fun e w' => e = .returned (.bool true) ∧ Below w.heap.size w w' := by
  have HH := hid hok; have HGs := hid hgs; clear hok hgs
  go_enter Tryz.func4, Tryz.ntmps4
  go_wp2_with fail
  generalize hW1 : World.alloc (World.alloc w _) _ = W1
  have B1 : Below w.heap.size w W1 := by rw [← hW1]; repeat (first | exact Below.refl _ _ | refine Below.alloc ?_ (by simp <;> omega) _)
  have S1 : W1.heap.size = w.heap.size + 2 := by rw [← hW1]; simp
  have b0 : W1.cell? ⟨w.heap.size, 0, none⟩ = some (.int .i64 mean) := by rw [← hW1]; simp [go_sem]
  have b1 : W1.cell? ⟨w.heap.size, 1, none⟩ = some (.slice ca cs.length cc) := by rw [← hW1]; simp [go_sem]
  have e0 : W1.cell? ⟨w.heap.size + 1, 0, none⟩ = some (.int .i64 x) := by rw [← hW1]; simp [go_sem]
  have e1 : W1.cell? ⟨w.heap.size + 1, 1, none⟩ = some (.int .i64 y) := by rw [← hW1]; simp [go_sem]
  have e2 : W1.cell? ⟨w.heap.size + 1, 2, none⟩ = some (.int .i64 z) := by rw [← hW1]; simp [go_sem]
  clear hW1
  have KT := hid (show ∀ V, Below W1.heap.size W1 V → (V.cell? ⟨w.heap.size, 0, none⟩ = some (.int .i64 mean) ∧ V.cell? ⟨w.heap.size, 1, none⟩ = some (.slice ca cs.length cc)) ∧ V.cell? ⟨w.heap.size + 1, 0, none⟩ = some (.int .i64 x) ∧ V.cell? ⟨w.heap.size + 1, 1, none⟩ = some (.int .i64 y) ∧ V.cell? ⟨w.heap.size + 1, 2, none⟩ = some (.int .i64 z) from fun V hV =>
    have c : ∀ o, V.cell? ⟨w.heap.size, o, none⟩ = W1.cell? ⟨w.heap.size, o, none⟩ := fun o => hV.cell (p := ⟨w.heap.size, o, none⟩) (by show w.heap.size < _; omega)
    have d : ∀ o, V.cell? ⟨w.heap.size + 1, o, none⟩ = W1.cell? ⟨w.heap.size + 1, o, none⟩ := fun o => hV.cell (p := ⟨w.heap.size + 1, o, none⟩) (by show w.heap.size + 1 < _; omega)
    ⟨⟨(c _).trans b0, (c _).trans b1⟩, (d _).trans e0, (d _).trans e1, (d _).trans e2⟩)
  refine (residual_any mean ca cc cs a cap gs x y z _ (HH.out.later B1 (Nat.le_refl _)) hcap hlen (HGs.out.later B1 (Nat.le_refl _))).mono ?_
  rintro e W2 ⟨r, rfl, hr, B2⟩
  have hs2 := B2.size
  have BW2 : Below w.heap.size w W2 := B1.trans (B2.mono (by omega))
  clear b0 b1 e0 e1 e2
  obtain ⟨⟨b0, b1⟩, e0, e1, e2⟩ := KT.out W2 B2
  have n1 : w.heap.size < W2.heap.size := by omega
  have n2 : w.heap.size + 1 < W2.heap.size := by omega
  go_wp2_with fail
  refine (rresidual_any mean ca cc cs a cap gs x y z _ (HH.out.later (BW2.alloc (by omega) _) (Nat.le_refl _)) hlen (HGs.out.later (BW2.alloc (by omega) _) (Nat.le_refl _))).mono ?_
  rintro e W3 ⟨q, rfl, hq, B3⟩
  obtain rfl := hr.unique hq
  have hs3 := B3.size
  simp only [World.size_alloc] at hs3
  have B23 : Below W2.heap.size W2 W3 := ((Below.refl _ _).alloc (Nat.le_refl _) _).trans (B3.mono (by simp))
  have p0 : W3.cell? ⟨W2.heap.size, 0, none⟩ = some (.int .i64 r.1.1) := (B3.cell (p := ⟨W2.heap.size, 0, none⟩) (by simp)).trans (by simp [go_sem])
  have p1 : W3.cell? ⟨W2.heap.size, 1, none⟩ = some (.int .i64 r.1.2) := (B3.cell (p := ⟨W2.heap.size, 1, none⟩) (by simp)).trans (by simp [go_sem])
  have BW3 : Below w.heap.size w W3 := BW2.trans (B23.mono (by omega))
  have n3 : W2.heap.size < W3.heap.size := by omega
  clear b0 b1 e0 e1 e2 n1 n2 hr hq B3
  go_wp2_with fail
  refine (awake_any _).mono ?_
  rintro e W7 ⟨rfl, B7⟩
  go_wp2_with fail
  go_ret
  exact ⟨rfl, (BW3.alloc (by omega) _).trans (B7.mono (by simp; omega))⟩
end Go.Proofs.YtblneiegekdnjaaGreat
