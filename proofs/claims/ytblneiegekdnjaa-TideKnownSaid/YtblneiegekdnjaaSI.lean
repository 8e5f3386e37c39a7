/- Tide, part SI: Sound. -/
import Derived.Test.YtblneiegekdnjaaSH
set_option linter.all false
namespace Go.Proofs.Ytblneiegekdnjaa
open Go.RowKit Go.Shelf

theorem firstAt_zero : ∀ (l : List (Int × Int)) (k : Nat), (firstAt k l).2.2 = 0 → ∀ p ∈ l, p.2 = 0 := by
  intro l
  induction l with
  | nil => intro k _ p hp; cases hp
  | cons q r ih =>
    intro k h p hp
    simp only [firstAt] at h
    split at h
    · rename_i hq; exact absurd h hq
    · rename_i hq
      rcases List.mem_cons.1 hp with rfl | hp
      · simpa using hq
      · exact ih _ h p hp
theorem askE_ok {gs : List Gau} {t now : Int} (h : askE gs t now = 0) :
    gs.length ≤ 8 ∧ (∀ i (hi : i < gs.length), GauGood gs[i]) ∧ (∀ i, i < gs.length → twE gs i = 0) ∧ (0 ≤ t ∧ t ≤ 200000) ∧ (0 ≤ now ∧ now ≤ 200000) := by
  have hz := firstAt_zero _ _ h
  have h1 := hz (mustP (decide ((gs.length : Int) ≤ 8)) 0 3) (by simp)
  have h2 := hz (eachP (ggE gs) 0 gs.length) (by simp)
  have h3 := hz (eachP (twE gs) 0 gs.length) (by simp)
  have h4 := hz (mustP (inB t 0 200000 && inB now 0 200000) 0 7) (by simp)
  refine ⟨?_, fun i hi => ?_, fun i hi => each_all h3 i (Nat.zero_le _) (by omega), ?_⟩
  · by_cases hl : (gs.length : Int) ≤ 8
    · omega
    · have : decide ((gs.length : Int) ≤ 8) = false := by simp; omega
      rw [this] at h1; simp [mustP] at h1
  · have := each_all h2 i (Nat.zero_le _) (by omega)
    unfold ggE at this
    rw [show gs.getD i default = gs[i] by simp [List.getD, hi]] at this
    exact gauGood this
  · cases hT : inB t 0 200000
    · rw [hT] at h4; simp [mustP] at h4
    · cases hN : inB now 0 200000
      · rw [hT, hN] at h4; simp [mustP] at h4
      · exact ⟨inB_iff.1 hT, inB_iff.1 hN⟩
/-- What Sound returns. -/
def SoundIs (gs : List Gau) (wrong t now : Int) (r : (Int × Int) × Int) : Prop :=
  if askE gs t now ≠ 0 then r = ((0, 0), askE gs t now) else if ¬ (0 ≤ wrong ∧ wrong ≤ (gs.length : Int) - 1) then r = ((0, 0), 7) else SoundRes (voiceL gs t now gs.length) ((gs.length : Int) - wrong) r
theorem SoundIs.unique {gs : List Gau} {wrong t now : Int} {r q : (Int × Int) × Int} (h : SoundIs gs wrong t now r) (k : SoundIs gs wrong t now q) : r = q := by
  unfold SoundIs at h k
  split at h
  · rename_i h1; rw [if_pos h1] at k; rw [h, k]
  · rename_i h1
    rw [if_neg h1] at k
    split at h
    · rename_i h2; rw [if_pos h2] at k; rw [h, k]
    · rename_i h2; rw [if_neg h2] at k; exact h.unique k
theorem voiceL_oks (gs : List Gau) (t now : Int) (k : Nat) : ∀ v ∈ voiceL gs t now k, VoiceOk v := fun v hv => (voiceL_ok gs t now k v hv).1

theorem two_sets {W V : World} {b : Nat} {u0 u1 v0 v1 : Value} (r0 : W.cell? ⟨b, 0, none⟩ = some u0) (r1 : W.cell? ⟨b, 1, none⟩ = some u1) (hV : ((W.setCell ⟨b, 0, none⟩ v0).setCell ⟨b, 1, none⟩ v1).drew = V) :
    V.cell? ⟨b, 0, none⟩ = some v0 ∧ V.cell? ⟨b, 1, none⟩ = some v1 ∧ (∀ B w, B ≤ b → Below B w W → Below B w V) := by
  subst hV
  have h0 : (W.setCell ⟨b, 0, none⟩ v0).cell? ⟨b, 0, none⟩ = some v0 := World.cell?_setCell_same' _ _ _ (by rw [r0]; rfl)
  have h1 : (W.setCell ⟨b, 0, none⟩ v0).cell? ⟨b, 1, none⟩ = some u1 := (World.cell?_setCell_other _ _ _ _ (by simp)).trans r1
  have k0 : ((W.setCell ⟨b, 0, none⟩ v0).setCell ⟨b, 1, none⟩ v1).cell? ⟨b, 0, none⟩ = some v0 := (World.cell?_setCell_other _ _ _ _ (by simp)).trans h0
  have k1 : ((W.setCell ⟨b, 0, none⟩ v0).setCell ⟨b, 1, none⟩ v1).cell? ⟨b, 1, none⟩ = some v1 := World.cell?_setCell_same' _ _ _ (by rw [h1]; rfl)
  exact ⟨by simpa using k0, by simpa using k1, fun B w hB h => ((h.setCell (p := ⟨b, 0, none⟩) hB _).setCell (p := ⟨b, 1, none⟩) hB _).drew⟩
set_option maxRecDepth 100000 in
set_option maxHeartbeats 8000000 in
theorem sound_any (a : Option Addr) (cap : Nat) (gs : List Gau) (wrong t now : Int) (w : World) (hcap : gs.length ≤ cap) (hlen : gs.length ≤ 140737488355328) (hgs : GausAt w a gs) :
    Calls Try.prog 32 #[.slice a gs.length cap, .int .i64 wrong, .int .i64 t, .int .i64 now] w
      fun e w' => ∃ r : (Int × Int) × Int, e = .returned (.tuple #[.agg #[.int .i64 r.1.1, .int .i64 r.1.2], .int .i64 r.2]) ∧ SoundIs gs wrong t now r ∧ Below w.heap.size w w' := by
  have HGs := hid hgs; clear hgs
  have HIs := hid (fun r => (Iff.rfl : SoundIs gs wrong t now r ↔ _))
  go_enter Try.func32, Try.ntmps32
  go_wp2_with fail
  generalize hW1 : World.alloc w _ = W1
  have B1 : Below w.heap.size w W1 := by rw [← hW1]; exact (Below.refl _ _).alloc (Nat.le_refl _) _
  have S1 : W1.heap.size = w.heap.size + 1 := by rw [← hW1]; simp
  have r0 : W1.cell? ⟨w.heap.size, 0, none⟩ = some (.int .i64 0) := by rw [← hW1]; simp [go_sem]
  have r1 : W1.cell? ⟨w.heap.size, 1, none⟩ = some (.int .i64 0) := by rw [← hW1]; simp [go_sem]
  have rf : ∀ o, W1.frozen? ⟨w.heap.size, o, none⟩ = false := by intro o; rw [← hW1]; simp [go_sem]
  clear hW1
  refine (askError_any a cap gs t now _ hcap hlen (HGs.out.later B1 (Nat.le_refl _))).mono ?_
  rintro e W2 ⟨rfl, B2⟩
  have s2 := B2.size
  have BW2 : Below w.heap.size w W2 := B1.trans (B2.mono (by omega))
  have R0 := hid ((B2.cell (p := ⟨w.heap.size, 0, none⟩) (by show w.heap.size < _; omega)).trans r0)
  have R1 := hid ((B2.cell (p := ⟨w.heap.size, 1, none⟩) (by show w.heap.size < _; omega)).trans r1)
  have RF := hid (show ∀ o, W2.frozen? ⟨w.heap.size, o, none⟩ = false from fun o => (B2.frozen (p := ⟨w.heap.size, o, none⟩) (by show w.heap.size < _; omega)).trans (rf o))
  clear r0 r1 rf B2
  have HOk := hid (fun h => askE_ok (gs := gs) (t := t) (now := now) h)
  have HIs := hid (show ∀ r, SoundIs gs wrong t now r ↔ if askE gs t now ≠ 0 then r = ((0, 0), askE gs t now) else if ¬ (0 ≤ wrong ∧ wrong ≤ (gs.length : Int) - 1) then r = ((0, 0), 7) else SoundRes (voiceL gs t now gs.length) ((gs.length : Int) - wrong) r from fun r => Iff.rfl)
  generalize askE gs t now = ae at *
  by_cases ha : ae = 0
  · subst ha
    have hia : ∀ r, SoundIs gs wrong t now r ↔ if ¬ (0 ≤ wrong ∧ wrong ≤ (gs.length : Int) - 1) then r = ((0, 0), 7) else SoundRes (voiceL gs t now gs.length) ((gs.length : Int) - wrong) r := fun r => (HIs.out r).trans (by rw [if_neg (by simp)])
    have HIa := hid hia
    clear hia HIs
    obtain ⟨hl8, hgood, _, ht, _⟩ := HOk.out rfl
    have HGood := hid hgood
    clear HOk hgood
    cases hin : inB wrong 0 ((gs.length : Int) - 1)
    · have HIn := hid (inB_no.1 hin)
      have r0 := R0.out; have r1 := R1.out; have f0 := RF.out 0; have f1 := RF.out 1
      have hwr : IntKind.i64.wrap ((gs.length : Int) - 1) = (gs.length : Int) - 1 := IntWalk.i64_in _ (by omega)
      go_wp2_with (go_at_call 63; refine (in_val _ _ _ _ _ (by assumption)).mono ?_; rintro e w' ⟨rfl, rfl⟩)
      refine bodyPost_ret (v := .tuple #[.agg #[.int .i64 0, .int .i64 0], .int .i64 7]) (by simp [results, Try.results32, go_sem, *]) rfl ⟨((0, 0), 7), rfl, (HIa.out _).2 (by rw [if_pos HIn.out]), ?_⟩
      repeat (first | exact BW2 | refine Below.setCell ?_ (by simp <;> omega) _)
    · have HIn := hid (inB_iff.1 hin)
      have hw := HIn.out
      go_wp2_with (go_at_call 63; refine (in_val _ _ _ _ _ (by assumption)).mono ?_; rintro e w' ⟨rfl, rfl⟩)
      refine (voices_any a cap gs t now _ hl8 HGood.out ht (HGs.out.later BW2 (Nat.le_refl _))).mono ?_
      rintro e W3 ⟨vb, vc, rfl, hv, B3⟩
      have s3 := B3.size
      have BW3 : Below w.heap.size w W3 := BW2.trans (B3.mono (by omega))
      have R0' := hid ((B3.cell (p := ⟨w.heap.size, 0, none⟩) (by show w.heap.size < _; omega)).trans R0.out)
      have R1' := hid ((B3.cell (p := ⟨w.heap.size, 1, none⟩) (by show w.heap.size < _; omega)).trans R1.out)
      have RF' := hid (show ∀ o, W3.frozen? ⟨w.heap.size, o, none⟩ = false from fun o => (B3.frozen (p := ⟨w.heap.size, o, none⟩) (by show w.heap.size < _; omega)).trans (RF.out o))
      have HV := hid hv
      have hvl := voiceL_len gs t now gs.length
      have HVo := hid (voiceL_oks gs t now gs.length)
      have hir : ∀ r, SoundRes (voiceL gs t now gs.length) ((gs.length : Int) - wrong) r → SoundIs gs wrong t now r := fun r hr => (HIa.out r).2 (by rw [if_neg (by simpa using HIn.out)]; exact hr)
      have HIr := hid hir
      clear R0 R1 RF B3 hv hir HIa HIn
      generalize voiceL gs t now gs.length = V at *
      have hwr : IntKind.i64.wrap ((gs.length : Int) - wrong) = (gs.length : Int) - wrong := IntWalk.i64_in _ (by omega)
      obtain ⟨n, hn⟩ : ∃ n : Int, (gs.length : Int) - wrong = n := ⟨_, rfl⟩
      have hn1 : 1 ≤ n ∧ n ≤ 8 := by omega
      have HWr := hid hwr
      rw [hn] at HIr
      go_wp2_with fail
      refine (agreed_any vb vc V n _ (by omega) HVo.out hn1.1 hn1.2 HV.out).mono ?_
      rintro e W4 ⟨fb, fc, F, rfl, hF, hFl, hAg, B4⟩
      have s4 := B4.size
      have BW4 : Below w.heap.size w W4 := BW3.trans (B4.mono (by omega))
      have r0 := (B4.cell (p := ⟨w.heap.size, 0, none⟩) (by show w.heap.size < _; omega)).trans R0'.out
      have r1 := (B4.cell (p := ⟨w.heap.size, 1, none⟩) (by show w.heap.size < _; omega)).trans R1'.out
      have f0 := (B4.frozen (p := ⟨w.heap.size, 0, none⟩) (by show w.heap.size < _; omega)).trans (RF'.out 0)
      have f1 := (B4.frozen (p := ⟨w.heap.size, 1, none⟩) (by show w.heap.size < _; omega)).trans (RF'.out 1)
      have HHn := hid hn
      clear R0' R1' RF' B4 HWr hwr hn
      rcases agreed_first hAg with ⟨rfl, hno⟩ | ⟨h0, hres⟩
      · have HRes := hid (HIr.out ((0, 0), 9) (.inl ⟨rfl, hno⟩))
        clear hno HIr hAg hF
        go_wp2_with fail
        refine bodyPost_ret (v := .tuple #[.agg #[.int .i64 0, .int .i64 0], .int .i64 9]) (by simp [results, Try.results32, go_sem, *]) rfl ⟨((0, 0), 9), rfl, HRes.out, ?_⟩
        repeat (first | exact BW4 | refine Below.setCell ?_ (by simp <;> omega) _)
      · have HRes := hid (HIr.out _ hres)
        clear hres HIr hAg
        rcases hF with h1 | ⟨g, o, rfl, hs, hc⟩
        · rw [h1] at h0; simp at h0
        obtain ⟨c0, c1⟩ := hc 0 h0
        obtain ⟨d0, d1⟩ := hc (F.length - 1) (by omega)
        have hlI : ((F.length : Int) == 0) = false := by simp only [beq_eq_false_iff_ne]; omega
        have hpos : (0 : Int) < (F.length : Int) := by omega
        have hl1 : (F.length : Int) - 1 = ((F.length - 1 : Nat) : Int) := by omega
        clear hc
        generalize F[0] = x at *
        generalize F[F.length - 1] = y at *
        obtain ⟨m, hm⟩ : ∃ m : Nat, F.length - 1 = m := ⟨_, rfl⟩
        rw [hm] at d0 d1 hl1
        have hml : (m : Int) < (F.length : Int) := by omega
        simp only [Nat.zero_mul, Nat.add_zero] at c0 c1
        go_upto_region 9 with fail
        go_region
        obtain ⟨v0, v1, hlow⟩ := two_sets (v0 := .int .i64 x.1) (v1 := .int .i64 y.2) r0 r1 rfl
        have hlow := hlow w.heap.size w (Nat.le_refl _) BW4
        clear c0 c1 d0 d1 r0 r1 f0 f1
        generalize World.drew _ = W5 at *
        go_wp2_with fail
        exact bodyPost_ret (v := .tuple #[.agg #[.int .i64 x.1, .int .i64 y.2], .int .i64 0]) (by simp [results, Try.results32, go_sem, v0, v1]) rfl ⟨((x.1, y.2), 0), rfl, HRes.out, hlow⟩
  · have ha' : (ae != 0) = true := by simp [ha]
    have HA := hid ha; clear ha
    have r0 := R0.out; have r1 := R1.out; have f0 := RF.out 0; have f1 := RF.out 1
    go_wp2_with fail
    refine bodyPost_ret (v := .tuple #[.agg #[.int .i64 0, .int .i64 0], .int .i64 ae]) (by simp [results, Try.results32, go_sem, *]) rfl ⟨((0, 0), ae), rfl, (HIs.out _).2 (by rw [if_pos HA.out]), ?_⟩
    repeat (first | exact BW2 | refine Below.setCell ?_ (by simp <;> omega) _)
end Go.Proofs.Ytblneiegekdnjaa
