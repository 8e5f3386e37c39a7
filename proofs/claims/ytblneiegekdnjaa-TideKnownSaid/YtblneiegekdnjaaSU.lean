/- Tide, part SU: the law's own count of the gauges that say so (for TideVotes). -/
import Derived.Test.YtblneiegekdnjaaSO
import Derived.Test.YtblneiegekdnjaaTN
set_option linter.all false
namespace Go.Proofs.Ytblneiegekdnjaa
open Go.RowKit Go.Shelf

theorem lhas_any (a b n : Int) (w : World) :
    Calls Try.prog 44 #[.agg #[.int .i64 a, .int .i64 b], .int .i64 n] w fun e w' => e = .returned (.bool (decide (a ≤ n ∧ n ≤ b))) ∧ Below w.heap.size w w' := by
  by_cases h1 : a ≤ n <;> by_cases h2 : n ≤ b
  all_goals
    go_enter Try.func44, Try.ntmps44
    go_wp2
    go_ret
    exact ⟨by simp [h1, h2], by repeat (first | exact Below.refl _ _ | refine Below.alloc ?_ (by simp <;> omega) _ | refine Below.drew ?_ | refine below_drewN ?_ _)⟩
theorem ask_gauges {gs : List Gau} {t now : Int} (h : askE gs t now = 0) : ∀ i (hi : i < gs.length), (gaugeP gs[i]).2.2 = 0 := fun i hi => by
  have h2 := firstAt_zero _ _ h (eachP (ggE gs) 0 gs.length) (by simp)
  have := each_all h2 i (Nat.zero_le _) (by omega)
  unfold ggE at this
  rwa [show gs.getD i default = gs[i] by simp [List.getD, hi]] at this
theorem saysP_good {g : Gau} {t now : Int} (h : (gaugeP g).2.2 = 0) (ht : 0 ≤ t ∧ t ≤ 200000) (hn : 0 ≤ now ∧ now ≤ 200000) : saysP g t now = sayP g t now := by
  unfold saysP
  rw [if_neg (by simp [h]), inB_iff.2 ht, inB_iff.2 hn]; rfl

set_option maxRecDepth 100000 in
set_option maxHeartbeats 8000000 in
theorem lagreed_any (a : Option Addr) (cap : Nat) (gs : List Gau) (x t now : Int) (w : World) (hask : askE gs t now = 0) (hgs : GausAt w a gs) :
    Calls Try.prog 47 #[.slice a gs.length cap, .int .i64 x, .int .i64 t, .int .i64 now] w
      fun e w' => e = .returned (.int .i64 (cnt (voiceL gs t now gs.length) x)) ∧ Below w.heap.size w w' := by
  obtain ⟨hl8, _, _, ht, hn⟩ := askE_ok hask
  have HGs := hid hgs; have HZ := hid (ask_gauges hask); have HTt := hid ht; have HNn := hid hn; clear hgs hask ht hn
  go_enter Try.func47, Try.ntmps47
  go_wp2_with fail
  go_loopw [9, 10, 11, 12] (fun n i _ _ wr => ∃ (k c : Nat), k ≤ gs.length ∧ i = .int .i64 k ∧ n = .int .i64 c ∧ c ≤ k ∧ Hid (cnt (voiceL gs t now k) x = c) ∧ Below w.heap.size w wr) (fun _ i _ _ _ => gs.length - (intOf i).toNat)
  case atStart => exact ⟨0, 0, Nat.zero_le _, rfl, rfl, Nat.le_refl _, hid rfl, Below.refl _ _⟩
  case round =>
    obtain ⟨k, c, hk, rfl, rfl, hck, hc0, hbw⟩ := hrel
    have hsz := hbw.size
    by_cases hlt : k < gs.length
    · rcases HGs.out.later hbw (Nat.le_refl _) with h0 | ⟨b, o, ps, rfl, hs, hc⟩
      · rw [h0] at hlt; simp at hlt
      obtain ⟨⟨c0, c1, c2, c3, c4⟩, hok⟩ := hc k hlt
      have HOk := hid hok
      have HSy := hid (saysP_good (HZ.out k hlt) HTt.out HNn.out)
      have hil : (k : Int) < (gs.length : Int) := by omega
      have HC := hid (show cnt (voiceL gs t now (k + 1)) x = cnt (voiceL gs t now k) x + if hasB gs[k] t now x = true then 1 else 0 by rw [cnt_snoc]; rw [show gs.getD k default = gs[k] by simp [List.getD, hlt]])
      clear hc hok
      generalize gs[k] = g at *
      generalize ps k = p at *
      go_wp2_with fail
      refine (saysFn_any g p t now _ HOk.out).mono ?_
      rintro e W2 ⟨rfl, B2⟩
      rw [HSy.out]
      have HB := hid (show hasB g t now x = decide ((sayP g t now).2 = 0 ∧ (sayP g t now).1.1 ≤ x ∧ x ≤ (sayP g t now).1.2) from rfl)
      have s2 := B2.size
      have BW2 := hbw.trans (B2.mono hsz)
      have hw2 := BW2.size
      clear c0 c1 c2 c3 c4 HSy B2
      generalize hasB g t now x = hb at *
      generalize sayP g t now = s at *
      by_cases hz : s.2 = 0
      · have hz' : (s.2 == 0) = true := by simp [hz]
        have HZz := hid hz; clear hz
        by_cases hin : s.1.1 ≤ x ∧ x ≤ s.1.2
        · have hd : decide (s.1.1 ≤ x ∧ x ≤ s.1.2) = true := decide_eq_true hin
          have HIn := hid hin; clear hin
          go_wp2_with fail
          refine (lhas_any _ _ _ _).mono ?_
          rintro e W3 ⟨rfl, B3⟩
          rw [hd]
          clear hd
          go_wp2_with fail
          refine ⟨⟨k + 1, c + 1, by omega, by go_num, by go_num, by omega, hid (by rw [HC.out, hc0.out, HB.out, decide_eq_true ⟨HZz.out, HIn.out⟩]; simp), (BW2.alloc hw2 _).trans (B3.mono (by simp; omega))⟩, ?_⟩
          simp [intOf]; omega
        · have hd : decide (s.1.1 ≤ x ∧ x ≤ s.1.2) = false := decide_eq_false hin
          have HIn := hid hin; clear hin
          go_wp2_with fail
          refine (lhas_any _ _ _ _).mono ?_
          rintro e W3 ⟨rfl, B3⟩
          rw [hd]
          clear hd
          go_wp2_with fail
          refine ⟨⟨k + 1, c, by omega, by go_num, rfl, by omega, hid (by rw [HC.out, hc0.out, HB.out, decide_eq_false (fun h => HIn.out h.2)]; simp), (BW2.alloc hw2 _).trans (B3.mono (by simp; omega))⟩, ?_⟩
          simp [intOf]; omega
      · have hz' : (s.2 == 0) = false := by simp [hz]
        have HZz := hid hz; clear hz
        go_wp2_with fail
        refine ⟨⟨k + 1, c, by omega, by go_num, rfl, by omega, hid (by rw [HC.out, hc0.out, HB.out, decide_eq_false (fun h => HZz.out h.1)]; simp), BW2.alloc hw2 _⟩, ?_⟩
        simp [intOf]; omega
    · obtain rfl : k = gs.length := by omega
      go_wp2_with fail
      go_ret
      exact ⟨by rw [hc0.out]; rfl, hbw⟩
end Go.Proofs.Ytblneiegekdnjaa
