/- Tide, part SK: the reference's has, agreed and ends. -/
import Derived.Test.YtblneiegekdnjaaGreatSJ
set_option linter.all false
namespace Go.Proofs.YtblneiegekdnjaaGreat
open Go.RowKit Go.Shelf

theorem A.infoIntS : (Tryz.prog.info? 3).map (fun i => (i.zero, i.size, i.bytes)) = some (some (.int .i64 0), 1, 8) := by kernel_rfl

set_option maxRecDepth 100000 in
set_option maxHeartbeats 8000000 in
theorem rhas_any (g : Gau) (p : GPos) (x t now : Int) (w : World) (hok : GauOk w p g) (hg : GauGood g) (ht : 0 ≤ t ∧ t ≤ 200000) :
    Calls Tryz.prog 86 #[.agg #[.string g.name, .int .i64 g.err, .int .i64 g.rate, .slice p.da g.ds.length p.dc, .slice p.ra g.rs.length p.rc], .int .i64 x, .int .i64 t, .int .i64 now] w
      fun e w' => e = .returned (.bool (hasB g t now x)) ∧ Below w.heap.size w w' := by
  have HOk := hid hok; have HG := hid hg; clear hok hg
  have HB := hid (show hasB g t now x = decide ((sayP g t now).2 = 0 ∧ (sayP g t now).1.1 ≤ x ∧ x ≤ (sayP g t now).1.2) from rfl)
  generalize hasB g t now x = hb at *
  go_enter Tryz.func86, Tryz.ntmps86
  go_wp2_with fail
  refine (rsays_any g p t now _ (HOk.out.later ((Below.refl _ _).alloc (Nat.le_refl _) _) (Nat.le_refl _)) HG.out ht).mono ?_
  rintro e W2 ⟨rfl, B2⟩
  have s2 := B2.size
  simp only [World.size_alloc] at s2
  have BX : Below w.heap.size w W2 := ((Below.refl _ _).alloc (Nat.le_refl _) _).trans (B2.mono (by simp))
  clear B2
  generalize sayP g t now = s at *
  by_cases hs : s.2 = 0
  · have hs' : (s.2 == 0) = true := by simp [hs]
    have HS := hid hs; clear hs
    cases hin : inB x s.1.1 s.1.2
    · have HI := hid (inB_no.1 hin)
      go_wp2_with (go_at_call 39; refine (rin_any _ _ _ _).mono ?_; rintro e w' ⟨rfl, rfl⟩)
      go_ret
      exact ⟨by rw [HB.out, decide_eq_false (by have := HI.out; rintro ⟨_, h1, h2⟩; exact this ⟨h1, h2⟩)]; rfl, BX.alloc (by omega) _⟩
    · have HI := hid (inB_iff.1 hin)
      go_wp2_with (go_at_call 39; refine (rin_any _ _ _ _).mono ?_; rintro e w' ⟨rfl, rfl⟩)
      go_ret
      exact ⟨by rw [HB.out, decide_eq_true ⟨HS.out, HI.out⟩]; rfl, BX.alloc (by omega) _⟩
  · have hs' : (s.2 == 0) = false := by simp [hs]
    have HS := hid hs; clear hs
    go_wp2_with fail
    go_ret
    exact ⟨by rw [HB.out, decide_eq_false (by rintro ⟨h1, _⟩; exact HS.out h1)]; rfl, BX.alloc (by omega) _⟩

set_option maxRecDepth 100000 in
set_option maxHeartbeats 8000000 in
theorem ragreed_any (a : Option Addr) (cap : Nat) (gs : List Gau) (x t now : Int) (w : World) (hlen : gs.length ≤ 8) (hgood : ∀ i (h : i < gs.length), GauGood gs[i]) (ht : 0 ≤ t ∧ t ≤ 200000) (hgs : GausAt w a gs) :
    Calls Tryz.prog 57 #[.slice a gs.length cap, .int .i64 x, .int .i64 t, .int .i64 now] w
      fun e w' => e = .returned (.int .i64 (cnt (voiceL gs t now gs.length) x)) ∧ Below w.heap.size w w' := by
  have HGs := hid hgs; have HG := hid hgood; clear hgs hgood
  go_enter Tryz.func57, Tryz.ntmps57
  go_wp2_with fail
  go_loopw [9, 10] (fun n i wr => ∃ (k c : Nat), k ≤ gs.length ∧ i = .int .i64 k ∧ n = .int .i64 c ∧ c ≤ k ∧ Hid (cnt (voiceL gs t now k) x = c) ∧ Below w.heap.size w wr) (fun _ i _ => gs.length - (intOf i).toNat)
  case atStart => exact ⟨0, 0, Nat.zero_le _, rfl, rfl, Nat.le_refl _, hid rfl, Below.refl _ _⟩
  case round =>
    obtain ⟨k, c, hk, rfl, rfl, hck, hc0, hbw⟩ := hrel
    have hsz := hbw.size
    by_cases hlt : k < gs.length
    · rcases HGs.out.later hbw (Nat.le_refl _) with h0 | ⟨b, o, ps, rfl, hs, hc⟩
      · rw [h0] at hlt; simp at hlt
      obtain ⟨⟨c0, c1, c2, c3, c4⟩, hok⟩ := hc k hlt
      have HOk := hid hok
      have HGk := hid (HG.out k hlt)
      have hil : (k : Int) < (gs.length : Int) := by omega
      have HC := hid (show cnt (voiceL gs t now (k + 1)) x = cnt (voiceL gs t now k) x + if hasB gs[k] t now x = true then 1 else 0 by rw [cnt_snoc]; rw [show gs.getD k default = gs[k] by simp [List.getD, hlt]])
      clear hc hok
      generalize gs[k] = g at *
      generalize ps k = p at *
      go_wp2_with fail
      refine (rhas_any g p x t now _ HOk.out HGk.out ht).mono ?_
      rintro e W2 ⟨rfl, B2⟩
      clear c0 c1 c2 c3 c4
      generalize hasB g t now x = hb at *
      cases hb
      · go_wp2_with fail
        refine ⟨⟨k + 1, c, by omega, by go_num, rfl, by omega, hid (by rw [HC.out, hc0.out]; simp), hbw.trans (B2.mono hsz)⟩, ?_⟩
        simp [intOf]; omega
      · go_wp2_with fail
        refine ⟨⟨k + 1, c + 1, by omega, by go_num, by go_num, by omega, hid (by rw [HC.out, hc0.out]; simp), hbw.trans (B2.mono hsz)⟩, ?_⟩
        simp [intOf]; omega
    · obtain rfl : k = gs.length := by omega
      go_wp2_with fail
      go_ret
      exact ⟨by rw [hc0.out]; rfl, hbw⟩

set_option maxRecDepth 100000 in
set_option maxHeartbeats 8000000 in
theorem rends_any (a : Option Addr) (cap : Nat) (gs : List Gau) (t now : Int) (w : World) (hlen : gs.length ≤ 8) (hgood : ∀ i (h : i < gs.length), GauGood gs[i]) (ht : 0 ≤ t ∧ t ≤ 200000) (hgs : GausAt w a gs) :
    Calls Tryz.prog 56 #[.slice a gs.length cap, .int .i64 t, .int .i64 now] w
      fun e w' => ∃ b c, e = .returned (.slice b (atsOf (voiceL gs t now gs.length)).length c) ∧ IntsAt w' b (atsOf (voiceL gs t now gs.length)) ∧ (∀ ad, b = some ad → w.heap.size ≤ ad.block) ∧ Below w.heap.size w w' := by
  obtain ⟨i0, hi, hz0, hz1, hz2⟩ := info_parts A.infoIntS
  have HGs := hid hgs; have HG := hid hgood; clear hgs hgood
  go_enter Tryz.func56, Tryz.ntmps56
  go_wp2_with fail
  go_loopw [7, 8, 9, 10] (fun v i _ _ wr => ∃ (k : Nat) (L : List Int), k ≤ gs.length ∧ i = .int .i64 k ∧ L.length ≤ 2 * k ∧ Hid (atsOf (voiceL gs t now k) = L) ∧ Hid (wr.ownsRow w.heap.size 3 1 v L.length (intVals L)) ∧ Below w.heap.size w wr) (fun _ i _ _ _ => gs.length - (intOf i).toNat)
  case atStart => exact ⟨0, [], Nat.zero_le _, rfl, Nat.le_refl _, hid rfl, hid (World.ownsRow_nil _ _ _ _), Below.refl _ _⟩
  case round =>
    obtain ⟨k, L, hk, rfl, hLk, hL, hown, hbw⟩ := hrel
    have hsz := hbw.size
    by_cases hlt : k < gs.length
    · rcases HGs.out.later hbw (Nat.le_refl _) with h0 | ⟨b, o, ps, rfl, hs, hc⟩
      · rw [h0] at hlt; simp at hlt
      obtain ⟨⟨c0, c1, c2, c3, c4⟩, hok⟩ := hc k hlt
      have HOk := hid hok
      have HGk := hid (HG.out k hlt)
      have hil : (k : Int) < (gs.length : Int) := by omega
      have HC := hid (show voiceL gs t now (k + 1) = voiceL gs t now k ++ (if (sayP gs[k] t now).2 = 0 then [((sayP gs[k] t now).1.1, (sayP gs[k] t now).1.2, (k : Int))] else []) by
        rw [voiceL]; simp only [List.getD, hlt, getElem?_pos, Option.getD_some])
      clear hc hok
      generalize gs[k] = g at *
      generalize ps k = p at *
      go_wp2_with fail
      refine (rsays_any g p t now _ HOk.out HGk.out ht).mono ?_
      rintro e W2 ⟨rfl, B2⟩
      have s2 := B2.size
      have HO := hid (ownsRow_below hown.out B2)
      have BW2 := hbw.trans (B2.mono hsz)
      clear c0 c1 c2 c3 c4 hown B2
      generalize sayP g t now = s at *
      by_cases hz : s.2 = 0
      · have hz' : (s.2 == 0) = true := by simp [hz]
        have HZ := hid hz; clear hz
        go_wp2_with (at_builtin; refine wpList_append_own _ rfl _ _ 25 rfl w.heap.size 3 i0 (.int .i64 0) 1 8 Tryz.underlying25 hi hz0 hz1 hz2 rfl (by decide) _ _ _ rfl ((HO.out.alloc _).alloc _) ⟨W2.heap.size + 1, 0, none⟩ 2 2 [.int .i64 s.1.1, .int .i64 s.1.2] rfl rfl (by intro j u hj; match j, hj with | 0, hj => simp at hj; subst hj; simp [Addr.add, go_sem] | 1, hj => simp at hj; subst hj; simp [Addr.add, go_sem]) (by intro u hu; simp at hu; rcases hu with rfl | rfl <;> rfl) (by unfold maxLen; omega) (by omega) (by simp; omega) ?_)
        intro v' w1 hown' hgrow _
        have bV : Below w.heap.size W2 w1 := (((Below.refl _ _).alloc (by omega) _).alloc (by simp; omega) _).trans (below_own ((HO.out.alloc _).alloc _) (Nat.le_refl _) (by simp; omega) hgrow)
        have HO' := hid (show w1.ownsRow w.heap.size 3 1 v' (L ++ [s.1.1, s.1.2]).length (intVals (L ++ [s.1.1, s.1.2])) by
          have e : intVals (L ++ [s.1.1, s.1.2]) = intVals L ++ [.int .i64 s.1.1, .int .i64 s.1.2] := by simp [intVals]
          rw [e]; simpa using hown')
        clear hown' hgrow
        go_wp2_with fail
        refine ⟨⟨k + 1, L ++ [s.1.1, s.1.2], by omega, by go_num, by simp; omega, hid (by rw [HC.out, if_pos HZ.out, atsOf_append, hL.out]; rfl), HO', BW2.trans bV⟩, ?_⟩
        simp [intOf]; omega
      · have hz' : (s.2 == 0) = false := by simp [hz]
        have HZ := hid hz; clear hz
        go_wp2_with fail
        refine ⟨⟨k + 1, L, by omega, by go_num, by omega, hid (by rw [HC.out, if_neg HZ.out, List.append_nil, hL.out]), hid (HO.out.alloc _), BW2.alloc (by omega) _⟩, ?_⟩
        simp [intOf]; omega
    · obtain rfl : k = gs.length := by omega
      obtain ⟨fa, fc, hv, hI⟩ := intsAt_of_own hown.out
      have HLo := hid (show ∀ ad, fa = some ad → w.heap.size ≤ ad.block from fun ad h => (hown.out.lt ad.block (by rw [hv, h]; rfl)).1)
      subst hv
      have HI := hid hI
      clear hown hI
      go_wp2_with fail
      go_ret
      exact ⟨fa, fc, by rw [hL.out]; rfl, by rw [hL.out]; exact HI.out, HLo.out, hbw⟩
end Go.Proofs.YtblneiegekdnjaaGreat
