/- Tide, part SJ: the reference's gauges. -/
import Derived.Test.YtblneiegekdnjaaGreatSI
import Derived.Test.YtblneiegekdnjaaGreatTX
import Derived.Test.YtblneiegekdnjaaGreatTW
set_option linter.all false
namespace Go.Proofs.YtblneiegekdnjaaGreat
open Go.RowKit Go.Shelf

theorem ask_long {gs : List Gau} {t now : Int} (h : 8 < gs.length) : askE gs t now = 3 := by
  have : decide ((gs.length : Int) ≤ 8) = false := by simp; omega
  unfold askE; rw [this]; simp [firstAt, mustP]
theorem ask_gauge {gs : List Gau} {t now : Int} (h : gs.length ≤ 8) {k : Nat} {e : Int} (h2 : eachP (ggE gs) 0 gs.length = ((k : Int), e)) (he : e ≠ 0) : askE gs t now = e := by
  have : decide ((gs.length : Int) ≤ 8) = true := by simp; omega
  unfold askE; rw [this, h2]; simp [firstAt, mustP, he]
theorem ask_twice {gs : List Gau} {t now : Int} (h : gs.length ≤ 8) (h2 : eachP (ggE gs) 0 gs.length = (0, 0)) {k : Nat} (h3 : eachP (twE gs) 0 gs.length = ((k : Int), 5)) : askE gs t now = 5 := by
  have : decide ((gs.length : Int) ≤ 8) = true := by simp; omega
  unfold askE; rw [this, h2, h3]; simp [firstAt, mustP]
theorem ask_tick {gs : List Gau} {t now : Int} (h : gs.length ≤ 8) (h2 : eachP (ggE gs) 0 gs.length = (0, 0)) (h3 : eachP (twE gs) 0 gs.length = (0, 0)) : askE gs t now = if (inB t 0 200000 && inB now 0 200000) = true then 0 else 7 := by
  have : decide ((gs.length : Int) ≤ 8) = true := by simp; omega
  unfold askE; rw [this, h2, h3]
  cases (inB t 0 200000 && inB now 0 200000) <;> simp [firstAt, mustP]

set_option maxRecDepth 100000 in
set_option maxHeartbeats 8000000 in
theorem rgauges_any (a : Option Addr) (cap : Nat) (gs : List Gau) (t now : Int) (w : World) (hlen : gs.length ≤ 140737488355328) (hgs : GausAt w a gs) :
    Calls Tryz.prog 55 #[.slice a gs.length cap, .int .i64 t, .int .i64 now] w
      fun e w' => e = .returned (.int .i64 (askE gs t now)) ∧ Below w.heap.size w w' := by
  have HGs := hid hgs; clear hgs
  have HA1 := hid (fun h => ask_long (gs := gs) (t := t) (now := now) h)
  have HA2 := hid (fun h k e h2 he => ask_gauge (gs := gs) (t := t) (now := now) h (k := k) (e := e) h2 he)
  have HA3 := hid (fun h h2 k h3 => ask_twice (gs := gs) (t := t) (now := now) h h2 (k := k) h3)
  have HA4 := hid (fun h h2 h3 => ask_tick (gs := gs) (t := t) (now := now) h h2 h3)
  generalize askE gs t now = ae at *
  go_enter Tryz.func55, Tryz.ntmps55
  by_cases h8 : 8 < gs.length
  · have h8' : decide ((8 : Int) < (gs.length : Int)) = true := by simp; omega
    have H8 := hid h8
    go_wp2_with fail
    go_ret
    exact ⟨by rw [HA1.out H8.out]; rfl, Below.refl _ _⟩
  have h8' : decide ((8 : Int) < (gs.length : Int)) = false := by simp; omega
  have H8 := hid (show gs.length ≤ 8 by omega)
  go_wp2_with fail
  go_loopw [7, 8, 9, 10] (fun i _ _ _ wr => ∃ k : Nat, k ≤ gs.length ∧ i = .int .i64 k ∧ Hid (eachP (ggE gs) 0 gs.length = eachP (ggE gs) k (gs.length - k)) ∧ Below w.heap.size w wr) (fun i _ _ _ _ => gs.length - (intOf i).toNat)
  case atStart => exact ⟨0, Nat.zero_le _, rfl, hid (by simp), Below.refl _ _⟩
  case round =>
    obtain ⟨k, hk, rfl, hf, hbw⟩ := hrel
    have hsz := hbw.size
    by_cases hlt : k < gs.length
    · rcases HGs.out.later hbw (Nat.le_refl _) with h0 | ⟨b, o, ps, rfl, hs, hc⟩
      · rw [h0] at hlt; simp at hlt
      obtain ⟨⟨c0, c1, c2, c3, c4⟩, hok⟩ := hc k hlt
      have HOk := hid hok
      have hE : ggE gs k = (gaugeP gs[k]).2.2 := by unfold ggE; rw [show gs.getD k default = gs[k] by simp [List.getD, hlt]]
      have hil : (k : Int) < (gs.length : Int) := by omega
      have hyes := fun he => eachP_yes (f := ggE gs) hlt he
      have hno := fun he => eachP_no (f := ggE gs) hlt he
      rw [hE] at hyes hno
      have HY := hid hyes; have HN := hid hno
      clear hc hok hyes hno hE
      generalize gs[k] = g at *
      generalize ps k = p at *
      go_wp2_with fail
      refine (rcheckGauge_any g p _ HOk.out).mono ?_
      rintro e W2 ⟨rfl, B2⟩
      generalize gaugeP g = q at *
      clear c0 c1 c2 c3 c4
      by_cases hq : q.2.2 = 0
      · have hq' : (q.2.2 != 0) = false := by simp [hq]
        have HQ := hid hq; clear hq
        go_wp2_with fail
        refine ⟨⟨k + 1, by omega, by go_num, hid (by rw [hf.out, HN.out HQ.out]), hbw.trans (B2.mono hsz)⟩, ?_⟩
        simp [intOf]; omega
      · have hq' : (q.2.2 != 0) = true := by simp [hq]
        have HQ := hid hq; clear hq
        go_wp2_with fail
        go_ret
        exact ⟨by rw [HA2.out H8.out k q.2.2 (by rw [hf.out, HY.out HQ.out]) HQ.out]; rfl, hbw.trans (B2.mono hsz)⟩
    · obtain rfl : k = gs.length := by omega
      have hf1 := hf.out
      rw [Nat.sub_self] at hf1
      have HF1 := hid (hf1.trans rfl : eachP (ggE gs) 0 gs.length = (0, 0))
      clear hf hf1
      go_wp2_with fail
      go_loopw [11, 12] (fun i _ wx => ∃ k : Nat, k ≤ gs.length ∧ i = .int .i64 k ∧ Hid (eachP (twE gs) 0 gs.length = eachP (twE gs) k (gs.length - k)) ∧ Below w.heap.size w wx) (fun i _ _ => gs.length - (intOf i).toNat)
      case atStart => exact ⟨0, Nat.zero_le _, rfl, hid (by simp), hbw⟩
      case round =>
        obtain ⟨k, hk, rfl, hf, hbx⟩ := hrel
        by_cases hlt : k < gs.length
        · have hyes := fun he => eachP_yes (f := twE gs) hlt he
          have hno := fun he => eachP_no (f := twE gs) hlt he
          have HY := hid hyes; have HN := hid hno
          have HTw := hid (show twE gs k = if 0 ≤ idxP (twB gs k) 0 k then 5 else 0 from rfl)
          have hil : (k : Int) < (gs.length : Int) := by omega
          clear hyes hno
          generalize twE gs k = te at *
          go_wp2_with fail
          go_loopw [12] (fun i wy => ∃ m : Nat, m ≤ k ∧ i = .int .i64 m ∧ Hid (idxP (twB gs k) 0 k = idxP (twB gs k) m (k - m)) ∧ Below w.heap.size w wy) (fun i _ => k - (intOf i).toNat)
          case atStart => exact ⟨0, Nat.zero_le _, rfl, hid (by simp), hbx⟩
          case round =>
            obtain ⟨m, hm, rfl, hg, hby⟩ := hrel
            by_cases hml : m < k
            · rcases HGs.out.later hby (Nat.le_refl _) with h0 | ⟨b, o, ps, rfl, hs, hc⟩
              · rw [h0] at hlt; simp at hlt
              have c0 := (hc k hlt).1.c0
              have d0 := (hc m (by omega)).1.c0
              have hmi : (m : Int) < (gs.length : Int) := by omega
              have hmk : (m : Int) < (k : Int) := by omega
              have HGy := hid (fun he => idxP_yes (f := twB gs k) hml he)
              have HGn := hid (fun he => idxP_no (f := twB gs k) hml he)
              have hmg : m < gs.length := by omega
              have HTb := hid (show twB gs k m = (gs[k].name.toList == gs[m].name.toList) by unfold twB; rw [show gs.getD k default = gs[k] by simp [List.getD, hlt], show gs.getD m default = gs[m] by simp [List.getD, hmg]]; exact BEq.comm)
              clear hc
              generalize gs[k] = x at *
              generalize gs[m] = y at *
              go_wp2_with fail
              go_quiet (fail)
              cases hxy : (x.name.toList == y.name.toList)
              · have HT := hid (HTb.out.trans hxy)
                go_wp2_with fail
                refine ⟨⟨m + 1, by omega, by go_num, hid (by rw [hg.out, HGn.out HT.out]), below_drewN hby _⟩, ?_⟩
                simp [intOf]; omega
              · have HT := hid (HTb.out.trans hxy)
                have HZ := hid (show te = 5 by rw [HTw.out, if_pos (by rw [hg.out, HGy.out HT.out]; omega)])
                go_wp2_with fail
                go_ret
                exact ⟨by rw [HA3.out H8.out HF1.out k (by rw [hf.out, HY.out (by rw [HZ.out]; decide), HZ.out])]; rfl, below_drewN hby _⟩
            · obtain rfl : m = k := by omega
              have hg1 := hg.out
              rw [Nat.sub_self] at hg1
              have HZ := hid (show te = 0 by rw [HTw.out, if_neg (by rw [hg1]; simp [idxP])])
              clear hg hg1 HTw
              go_wp2_with fail
              refine ⟨⟨m + 1, by omega, by go_num, hid (by rw [hf.out, HN.out HZ.out]), hby⟩, ?_⟩
              simp [intOf]; omega
        · obtain rfl : k = gs.length := by omega
          have hf1 := hf.out
          rw [Nat.sub_self] at hf1
          have HF2 := hid (hf1.trans rfl : eachP (twE gs) 0 gs.length = (0, 0))
          clear hf hf1
          have HA := hid (HA4.out H8.out HF1.out HF2.out)
          cases hT : inB t 0 200000
          · have HT := hid hT
            go_wp2_with (go_at_call 60; refine (rtick_any _ _).mono ?_; rintro e w' ⟨rfl, rfl⟩)
            go_ret
            exact ⟨by rw [HA.out, HT.out]; rfl, hbx⟩
          · have HT := hid hT
            cases hN : inB now 0 200000
            · have HN' := hid hN
              go_wp2_with (go_at_call 60; refine (rtick_any _ _).mono ?_; rintro e w' ⟨rfl, rfl⟩)
              go_ret
              exact ⟨by rw [HA.out, HT.out, HN'.out]; rfl, hbx⟩
            · have HN' := hid hN
              go_wp2_with (go_at_call 60; refine (rtick_any _ _).mono ?_; rintro e w' ⟨rfl, rfl⟩)
              go_ret
              exact ⟨by rw [HA.out, HT.out, HN'.out]; rfl, hbx⟩
end Go.Proofs.YtblneiegekdnjaaGreat
