/- Tide, part E: the document's own check of a constituent (package barrageref01). -/
import Derived.Test.YtblneiegekdnjaaTD
set_option linter.all false
namespace Go.Proofs.Ytblneiegekdnjaa
open Go.RowKit

theorem rin_val (b : Bool) (x lo hi : Int) (w : World) (h : inB x lo hi = b) :
    Calls Try.prog 55 #[.int .i64 x, .int .i64 lo, .int .i64 hi] w fun e w' => e = .returned (.bool b) ∧ w = w' := by
  rw [← h]; exact rin_any x lo hi w

set_option maxRecDepth 20000 in
set_option maxHeartbeats 1000000 in
theorem constituent_any (mean : Int) (b o cap : Nat) (l : List Con) (i : Nat) (hi : i < l.length) (w : World) (ha : Nat → Option Addr) (hc : Nat → Nat) (hb : b < w.heap.size) (hl : l.length ≤ 140737488355328)
    (hat : ∀ i (h : i < l.length), ConAt w b (o + i * 6) l[i] (ha i) (hc i)) (hwf : ∀ c ∈ l, ConWf c) :
    Calls Try.prog 56 #[.agg #[.int .i64 mean, .slice (some ⟨b, o, none⟩) l.length cap], .int .i64 i] w fun e w' => e = .returned (.int .i64 (conErr ((l.take i).map Con.nm) l[i])) ∧ Below w.heap.size w w' := by
  have HA := hid hat; clear hat
  have HW := hid hwf; clear hwf
  obtain ⟨c0, c1, c2, c3, c4, c5, chs⟩ := HA.out i hi
  obtain ⟨wn, wl, wh, wo, wst, wd, wsl⟩ := HW.out l[i] (List.getElem_mem _)
  have HI := hid chs; clear chs
  have HM := hid (fun k (hk : k < i) => mem_take_map (l := l) hk hi)
  have HNM := hid (not_mem_take_map (l := l) (i := i) (nm := l[i].nm))
  generalize (l.take i).map Con.nm = L at *
  generalize l[i] = c at *
  obtain ⟨nm, hs, off, step, den, slack⟩ := c
  have hE := conErr_mk L nm hs off step den slack
  generalize conErr L _ = E at *
  have HE := hid hE; clear hE
  have HNM : Hid ((∀ k (hk : k < l.length), k < i → l[k].nm ≠ nm.data.toList) → ¬ nm.data.toList ∈ L) := HNM
  simp only at c0 c1 c2 c3 c4 c5 HI wn wl wh wo wst wd wsl
  generalize ha i = hai at *
  generalize hc i = hci at *
  have wn' := wn
  unfold maxLen at wn'
  cases hn : nameB nm.data.toList
  · have HN := hid hn
    go_enter Try.func56, Try.ntmps56
    go_wp2_with (go_at_call 21; refine (rname_any _ _ wn).mono ?_; rintro e w' ⟨rfl, rfl⟩)
    go_ret
    refine ⟨?_, ((Below.refl _ _).alloc (Nat.le_refl _) _).alloc (by simp) _⟩
    rw [HE.out, if_pos HN.out]; rfl
  have HN := hid hn
  go_enter Try.func56, Try.ntmps56
  go_wp2_with fail
  refine (rname_any _ _ wn).mono ?_
  rintro e w' ⟨rfl, rfl⟩
  rw [hn]; clear hn
  generalize hW1 : World.alloc (World.alloc w _) _ = W1
  have B1 : Below w.heap.size w W1 := by rw [← hW1]; exact ((Below.refl _ _).alloc (Nat.le_refl _) _).alloc (by simp) _
  have S1 : w.heap.size + 1 < W1.heap.size := by rw [← hW1]; simp
  have t0 : W1.cell? ⟨w.heap.size, 1, none⟩ = some (.slice (some ⟨b, o, none⟩) l.length cap) := by rw [← hW1]; simp [go_sem]
  have d0 : W1.cell? ⟨w.heap.size + 1, 0, none⟩ = some (.string nm) := by rw [← hW1]; simp [go_sem]
  have d1 : W1.cell? ⟨w.heap.size + 1, 1, none⟩ = some (.slice hai hs.length hci) := by rw [← hW1]; simp [go_sem]
  have d2 : W1.cell? ⟨w.heap.size + 1, 2, none⟩ = some (.int .i64 off) := by rw [← hW1]; simp [go_sem]
  have d3 : W1.cell? ⟨w.heap.size + 1, 3, none⟩ = some (.int .i64 step) := by rw [← hW1]; simp [go_sem]
  have d4 : W1.cell? ⟨w.heap.size + 1, 4, none⟩ = some (.int .i64 den) := by rw [← hW1]; simp [go_sem]
  have d5 : W1.cell? ⟨w.heap.size + 1, 5, none⟩ = some (.int .i64 slack) := by rw [← hW1]; simp [go_sem]
  clear hW1 c0 c1 c2 c3 c4 c5
  go_wp2_with fail
  go_loopw [4, 6] (fun r k wr => ∃ n : Nat, n ≤ i ∧ k = .int .i64 n ∧ r = .int .i64 0 ∧ Hid (∀ k (hk : k < l.length), k < n → l[k].nm ≠ nm.data.toList) ∧ Below (w.heap.size + 2) W1 wr) (fun _ k _ => i - (intOf k).toNat)
  case atStart => exact ⟨0, Nat.zero_le _, rfl, rfl, hid (by intro k _ h; omega), Below.refl _ _⟩
  case round =>
    obtain ⟨n, hni, rfl, rfl, hdiff, hbw⟩ := hrel
    have e0 := (hbw.cell (p := ⟨w.heap.size + 1, 0, none⟩) (by simp)).trans d0
    have et := (hbw.cell (p := ⟨w.heap.size, 1, none⟩) (by simp)).trans t0
    have hbl : Below w.heap.size w wr := B1.trans (hbw.mono (by omega))
    have hsz : w.heap.size + 1 < wr.heap.size := Nat.lt_of_lt_of_le S1 hbw.size
    by_cases hlt : n < i
    · have hnl : n < l.length := by omega
      have hnl' : (n : Int) < (l.length : Int) := by omega
      obtain ⟨c0, _, _, _, _, _, _⟩ := (HA.out n (by omega)).later hb hbl (Nat.le_refl _)
      have HMn := hid (HM.out n hlt)
      clear d0 d1 d2 d3 d4 d5
      generalize hgn : l[n] = cn at *
      obtain ⟨nm2, hs2, off2, step2, den2, slack2⟩ := cn
      have HMn : Hid (nm2.data.toList ∈ L) := HMn
      have HN0 : Hid (l[n].nm = nm2.data.toList) := hid (by rw [hgn]; rfl)
      clear hgn
      simp only at c0
      go_wp2_with fail
      go_quiet (fail)
      go_wp2_with fail
      · go_ret
        refine ⟨?_, below_drewN hbl _⟩
        have hq : nm2.data.toList = nm.data.toList := str_eq ‹_›
        rw [HE.out, if_neg (by rw [HN.out]; simp), if_pos (by rw [← hq]; exact HMn.out)]; rfl
      · have hq : nm2.data.toList ≠ nm.data.toList := str_ne ‹_›
        refine ⟨⟨n + 1, by omega, by go_num, rfl, hid ?_, below_drewN hbw _⟩, by simp [intOf]; omega⟩
        intro k hk hkn
        by_cases h : k < n
        · exact hdiff.out k hk h
        · obtain rfl : k = n := by omega
          rw [HN0.out]; exact hq
    · have e1 := (hbw.cell (p := ⟨w.heap.size + 1, 1, none⟩) (by simp)).trans d1
      have e2 := (hbw.cell (p := ⟨w.heap.size + 1, 2, none⟩) (by simp)).trans d2
      have e3 := (hbw.cell (p := ⟨w.heap.size + 1, 3, none⟩) (by simp)).trans d3
      have e4 := (hbw.cell (p := ⟨w.heap.size + 1, 4, none⟩) (by simp)).trans d4
      have e5 := (hbw.cell (p := ⟨w.heap.size + 1, 5, none⟩) (by simp)).trans d5
      have HE2 := HE.out
      rw [if_neg (by rw [HN.out]; simp), if_neg (HNM.out (fun k hk hkn => hdiff.out k hk (by omega)))] at HE2
      have HI2 := HI.out.later hbl (Nat.le_refl _)
      have HIw := hid HI2; clear HI2
      clear d0 d1 d2 d3 d4 d5 hdiff HNM HM HE
      have HE := hid HE2; clear HE2
      cases hlen : inB hs.length 2 48
      · have HLen := hid hlen
        go_wp2_with (go_at_call 55; refine (rin_val _ _ _ _ _ (by assumption)).mono ?_; rintro e w' ⟨rfl, rfl⟩)
        go_ret
        refine ⟨?_, hbl⟩
        rw [HE.out, if_pos HLen.out]; rfl
      have HLen := hid hlen
      have hlb := inB_iff.1 HLen.out
      obtain ⟨hl2, hl48⟩ := hlb
      have HE2 := HE.out
      rw [if_neg (by rw [HLen.out]; simp)] at HE2
      clear HE
      have HE := hid HE2; clear HE2
      have HI3 := HIw.out
      rcases HI3 with h0 | ⟨hbk, hof, rfl, hbs, hcs⟩
      · subst h0; simp at hl2
      have HCS := hid hcs; clear hcs HIw HI HA HW
      cases hd : inB den 1 1000
      · have HD := hid hd
        have HZ := hid (show E = 7 by rw [HE.out]; split; rfl; simp [HD.out])
        go_wp2_with (go_at_call 55; refine (rin_val _ _ _ _ _ (by assumption)).mono ?_; rintro e w' ⟨rfl, rfl⟩)
        go_loop [7, 8] (fun g k => ∃ n : Nat, n ≤ hs.length ∧ k = .int .i64 n ∧ g = .bool false) (fun _ k => hs.length - (intOf k).toNat)
        case atStart => exact ⟨0, Nat.zero_le _, rfl, rfl⟩
        case round =>
          obtain ⟨m, hm, rfl, rfl⟩ := hrel
          by_cases hlt2 : m < hs.length
          · go_wp2_with fail
            go_round
            case rel => exact ⟨m + 1, by omega, by go_num, rfl⟩
            case measure => simp [intOf]; omega
          · go_wp2_with fail
            go_ret
            exact ⟨by rw [HZ.out]; rfl, hbl⟩
      have HD := hid hd
      cases hst : inB step 1 100000
      · have HS := hid hst
        have HZ := hid (show E = 7 by rw [HE.out]; split; rfl; simp [HS.out])
        go_wp2_with (go_at_call 55; refine (rin_val _ _ _ _ _ (by assumption)).mono ?_; rintro e w' ⟨rfl, rfl⟩)
        go_loop [7, 8] (fun g k => ∃ n : Nat, n ≤ hs.length ∧ k = .int .i64 n ∧ g = .bool false) (fun _ k => hs.length - (intOf k).toNat)
        case atStart => exact ⟨0, Nat.zero_le _, rfl, rfl⟩
        case round =>
          obtain ⟨m, hm, rfl, rfl⟩ := hrel
          by_cases hlt2 : m < hs.length
          · go_wp2_with fail
            go_round
            case rel => exact ⟨m + 1, by omega, by go_num, rfl⟩
            case measure => simp [intOf]; omega
          · go_wp2_with fail
            go_ret
            exact ⟨by rw [HZ.out]; rfl, hbl⟩
      have HS := hid hst
      cases hsl : inB slack 0 1000
      · have HL := hid hsl
        have HZ := hid (show E = 7 by rw [HE.out]; split; rfl; simp [HL.out])
        go_wp2_with (go_at_call 55; refine (rin_val _ _ _ _ _ (by assumption)).mono ?_; rintro e w' ⟨rfl, rfl⟩)
        go_loop [7, 8] (fun g k => ∃ n : Nat, n ≤ hs.length ∧ k = .int .i64 n ∧ g = .bool false) (fun _ k => hs.length - (intOf k).toNat)
        case atStart => exact ⟨0, Nat.zero_le _, rfl, rfl⟩
        case round =>
          obtain ⟨m, hm, rfl, rfl⟩ := hrel
          by_cases hlt2 : m < hs.length
          · go_wp2_with fail
            go_round
            case rel => exact ⟨m + 1, by omega, by go_num, rfl⟩
            case measure => simp [intOf]; omega
          · go_wp2_with fail
            go_ret
            exact ⟨by rw [HZ.out]; rfl, hbl⟩
      have HL := hid hsl
      go_wp2_with (go_at_call 55; refine (rin_val _ _ _ _ _ (by assumption)).mono ?_; rintro e w' ⟨rfl, rfl⟩)
      go_loop [7, 8] (fun g k => ∃ n : Nat, n ≤ hs.length ∧ k = .int .i64 n ∧ ∃ gb, g = .bool gb ∧ Hid (gb = heightsB (hs.take n))) (fun _ k => hs.length - (intOf k).toNat)
      case atStart => exact ⟨0, Nat.zero_le _, rfl, _, rfl, hid rfl⟩
      case round =>
        obtain ⟨m, hm, rfl, gb, rfl, hall⟩ := hrel
        by_cases hlt2 : m < hs.length
        · have hcell := HCS.out m hlt2
          have HT := hid (show heightsB (hs.take (m + 1)) = (heightsB (hs.take m) && inB hs[m] (-10000) 10000) by
            unfold heightsB; rw [List.take_succ_eq_append_getElem hlt2, List.all_append]; simp)
          generalize hs[m] = x at *
          cases gb
          · go_wp2_with fail
            go_round
            case rel => exact ⟨m + 1, by omega, by go_num, _, rfl, hid (by rw [HT.out, ← hall.out]; rfl)⟩
            case measure => simp [intOf]; omega
          · cases hx : inB x (-10000) 10000
            all_goals
              have HX := hid hx
              go_wp2_with (go_at_call 55; refine (rin_val _ _ _ _ _ (by assumption)).mono ?_; rintro e w' ⟨rfl, rfl⟩)
              go_round
              case rel => exact ⟨m + 1, by omega, by go_num, _, rfl, hid (by rw [HT.out, ← hall.out, HX.out]; rfl)⟩
              case measure => simp [intOf]; omega
        · have hfin : gb = heightsB hs := by rw [hall.out, List.take_of_length_le (by omega)]
          have HF := hid hfin; clear hfin hall
          cases gb
          · go_wp2_with fail
            go_ret
            exact ⟨by rw [HE.out, if_pos HF.out.symm]; rfl, hbl⟩
          · obtain ⟨hd1, hd2⟩ := inB_iff.1 HD.out
            have hp1 : 0 ≤ den * hs.length := Int.mul_nonneg (by omega) (by omega)
            have hp2 : den * hs.length ≤ 1000 * 48 := Int.mul_le_mul hd2 (by omega) (by omega) (by omega)
            cases ho : inB off 0 (den * hs.length - 1)
            all_goals
              have HO := hid ho
              go_wp2_with (go_at_call 55; refine (rin_val _ _ _ _ _ (by assumption)).mono ?_; rintro e w' ⟨rfl, rfl⟩)
              go_ret
              exact ⟨by rw [HE.out, if_neg (by rw [← HF.out]; simp)]; simp [HD.out, HS.out, HL.out, HO.out]; try rfl, hbl⟩
end Go.Proofs.Ytblneiegekdnjaa
