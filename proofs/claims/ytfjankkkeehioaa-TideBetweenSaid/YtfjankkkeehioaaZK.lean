/- Tide, part ZK: TideBetween's walk. -/
import Derived.Test.YtfjankkkeehioaaZQ
import Derived.Test.YtfjankkkeehioaaTSc
import Derived.Lib.MinMax
import Derived.Deep.DeepCutAuto
set_option linter.all false
namespace Go.Proofs.Ytfjankkkeehioaa
open Go.RowKit

theorem hk_bd' {c : Con} (hg : ConGood c) (t : Int) : ∃ k : Nat, placeOf c t / c.den = k ∧ k < c.hs.length ∧ 0 ≤ placeOf c t % c.den ∧ placeOf c t % c.den < c.den := hk_bd hg t
theorem wide_wf {i : Nat} {c : Con} (h : ConWf c) (hg : ConGood c) : ConWf (wideC i c) := by
  have h2 := wideC_good i c hg
  exact ⟨h.name, h.len, h.hs, h.off, h.step, h.den, ⟨by have := h2.slack1; omega, by have := h2.slack2; omega⟩⟩
theorem has_true (a b n : Int) (w : World) (h : a ≤ n ∧ n ≤ b) :
    Calls Try.prog 44 #[.agg #[.int .i64 a, .int .i64 b], .int .i64 n] w fun e w' => e = .returned (.bool true) ∧ Below w.heap.size w w' := by
  obtain ⟨h1, h2⟩ := h
  go_enter Try.func44, Try.ntmps44
  go_wp2
  go_ret
  exact ⟨rfl, by repeat (first | exact Below.refl _ _ | refine Below.alloc ?_ (by simp <;> omega) _ | refine Below.drew ?_ | refine below_drewN ?_ _)⟩
theorem within_true' (a b c d : Int) (w : World) (h : c ≤ a ∧ b ≤ d) :
    Calls Try.prog 45 #[.agg #[.int .i64 a, .int .i64 b], .agg #[.int .i64 c, .int .i64 d]] w fun e w' => e = .returned (.bool true) ∧ Below w.heap.size w w' := by
  obtain ⟨h1, h2⟩ := h
  go_enter Try.func45, Try.ntmps45
  go_wp2
  go_ret
  exact ⟨rfl, by repeat (first | exact Below.refl _ _ | refine Below.alloc ?_ (by simp <;> omega) _ | refine Below.drew ?_ | refine below_drewN ?_ _)⟩
theorem dv_bd {s x : Int} (h0 : 0 ≤ s) (h1 : s ≤ 1000) (x1 : -128 ≤ x) (x2 : x ≤ 127) : (-127000 ≤ s * max x (-127) ∧ s * max x (-127) ≤ 127000) ∧ -1000 ≤ (s * max x (-127)).tdiv 127 ∧ (s * max x (-127)).tdiv 127 ≤ 1000 := by
  have e : -127 ≤ max x (-127) ∧ max x (-127) ≤ 127 := by omega
  generalize max x (-127) = y at *
  have a1 : s * y ≤ s * 127 := Int.mul_le_mul_of_nonneg_left e.2 h0
  have a2 : s * (-127) ≤ s * y := Int.mul_le_mul_of_nonneg_left e.1 h0
  have b1 : -127000 ≤ s * y ∧ s * y ≤ 127000 := by omega
  refine ⟨b1, ?_⟩
  generalize s * y = z at *
  by_cases g : z.tmod 127 < 0
  · have h1 := tdiv_neg z 127 (by omega) g
    have h2 : z < 0 := by
      rcases Int.lt_or_le z 0 with h | h
      · exact h
      · have := Int.tmod_nonneg 127 h; omega
    omega
  · have := tdiv_pos z 127 (by omega) g; omega
theorem xd_bd {x d : Int} (h1 : -20001000 ≤ x) (h2 : x ≤ 20001000) (d1 : 1 ≤ d) (d2 : d ≤ 1000) : -20001000000 ≤ x * d ∧ x * d ≤ 20001000000 := by
  have a1 : x * d ≤ 20001000 * d := Int.mul_le_mul_of_nonneg_right h2 (by omega)
  have a2 : -20001000 * d ≤ x * d := Int.mul_le_mul_of_nonneg_right h1 (by omega)
  omega

set_option maxRecDepth 100000 in
set_option maxHeartbeats 32000000 in
theorem between_any' (mean : Int) (a : Option Addr) (cap : Nat) (cs : List Con) (t : Int) (da : Option Addr) (dl : List Int) (dc : Nat) (w : World) (hok : ConsOk w a cap cs)
    (hdl : dl.length ≤ 140737488355328) (hdb : ∀ s ∈ dl, -128 ≤ s ∧ s ≤ 127) (hda : KindsAt w .i8 da dl) :
    Calls Try.prog 9 #[.agg #[.int .i64 mean, .slice a cs.length cap], .int .i64 t, .slice da dl.length dc] w
      fun e w' => e = .returned (.bool true) ∧ Below w.heap.size w w' := by
  obtain ⟨q, hq⟩ : ∃ q, levelP mean cs t = q := ⟨_, rfl⟩
  obtain ⟨ck, hck⟩ : ∃ ck, checkP mean cs = ck := ⟨_, rfl⟩
  have HH := hid hok; have HQ := hid hq; have HC := hid hck; have HDb := hid hdb; have HDa := hid hda
  clear hok hq hck hdb hda
  obtain ⟨ha, hc, hrows⟩ := HH.out.rows
  have HRw := hid hrows; clear hrows
  obtain ⟨i0, hi, hz0, hz1, hz2⟩ := info_parts A.infoCon
  go_enter Try.func9, Try.ntmps9
  go_wp2_with fail
  generalize hW1 : World.alloc w _ = W1
  have B1 : Below w.heap.size w W1 := by rw [← hW1]; exact (Below.refl _ _).alloc (Nat.le_refl _) _
  have S1 : w.heap.size < W1.heap.size := by rw [← hW1]; simp
  have M0 := hid (show W1.cell? ⟨w.heap.size, 0, none⟩ = some (.int .i64 mean) by rw [← hW1]; simp [go_sem])
  have M1 := hid (show W1.cell? ⟨w.heap.size, 1, none⟩ = some (.slice a cs.length cap) by rw [← hW1]; simp [go_sem])
  clear hW1
  refine (levelVal mean a cap cs t q _ (HH.out.later B1 (Nat.le_refl _)) HQ.out).mono ?_
  rintro e W2 ⟨rfl, B2⟩
  have BW2 : Below w.heap.size w W2 := B1.trans (B2.mono (by omega))
  have G2 : Below W1.heap.size W1 W2 := B2
  clear B2
  have c0 := (G2.cell (p := ⟨w.heap.size, 0, none⟩) S1).trans M0.out
  have c1 := (G2.cell (p := ⟨w.heap.size, 1, none⟩) S1).trans M1.out
  have l2 : w.heap.size < W2.heap.size := Nat.lt_of_lt_of_le S1 G2.size
  have n2 : w.heap.size ≠ W2.heap.size := by omega
  go_wp2_with fail
  refine (show Calls Try.prog 18 #[.agg #[.int .i64 mean, .slice a cs.length cap]] _ (fun e w' => e = .returned (.tuple #[.int .i64 ck.1, .int .i64 ck.2]) ∧ _) by rw [← HC.out]; exact check_any mean a cap cs _ (HH.out.later (BW2.alloc (Nat.le_of_lt l2) _) (Nat.le_refl _))).mono ?_
  rintro e W3 ⟨rfl, B3⟩
  have a0 := hid (show W3.cell? ⟨W2.heap.size, 0, none⟩ = some (.int .i64 q.1.1) from (B3.cell (p := ⟨W2.heap.size, 0, none⟩) (by simp)).trans (by simp [go_sem]))
  have a1 := hid (show W3.cell? ⟨W2.heap.size, 1, none⟩ = some (.int .i64 q.1.2) from (B3.cell (p := ⟨W2.heap.size, 1, none⟩) (by simp)).trans (by simp [go_sem]))
  have BW3 : Below w.heap.size w W3 := (BW2.alloc (Nat.le_of_lt l2) _).trans (B3.mono (by simp; omega))
  have G3 : Below W1.heap.size W1 W3 := (G2.alloc G2.size _).trans (B3.mono (by have := G2.size; simp; omega))
  have l3 : W2.heap.size < W3.heap.size := by have := B3.size; simp at this; omega
  clear B3 G2 BW2 c0 c1 n2
  have c0 := (G3.cell (p := ⟨w.heap.size, 0, none⟩) S1).trans M0.out
  have c1 := (G3.cell (p := ⟨w.heap.size, 1, none⟩) S1).trans M1.out
  by_cases hq0 : q.2 = 0
  · have hqf : (q.2 != 0) = false := by simp [hq0]
    obtain ⟨hck, htt, hqv⟩ := levelP_ok HQ.out hq0
    obtain ⟨ht0, ht1⟩ := htt
    have hckf : (ck.2 != 0) = false := by rw [← HC.out]; simp [hck]
    have HCk := hid hck; have HQv := hid hqv
    have HG := hid (tabGood_of hck)
    have hlen := HG.out.2.1
    have hl12 : (cs.length : Int) ≤ 12 := by omega
    have n3 : w.heap.size ≠ W3.heap.size := by omega
    clear hq0 hck hqv
    go_wp2_with fail
    generalize hWs : World.alloc W3 _ = Ws
    have BWs : Below w.heap.size w Ws := by rw [← hWs]; exact BW3.alloc (by omega) _
    have GWs : Below W3.heap.size W3 Ws := by rw [← hWs]; exact (Below.refl _ _).alloc (Nat.le_refl _) _
    have sWs : Ws.heap.size = W3.heap.size + 1 := by rw [← hWs]; simp
    have U0 := hid (show Ws.cell? ⟨W3.heap.size, 0, none⟩ = some (.int .i64 mean) by rw [← hWs]; simp [go_sem])
    have U1 := hid (show Ws.cell? ⟨W3.heap.size, 1, none⟩ = some (.slice none 0 0) by rw [← hWs]; simp [go_sem])
    have UF := hid (show ∀ o, Ws.frozen? ⟨W3.heap.size, o, none⟩ = false by intro o; rw [← hWs]; simp [go_sem])
    have C0 := hid ((GWs.cell (p := ⟨w.heap.size, 0, none⟩) (by simp; omega)).trans c0)
    have C1 := hid ((GWs.cell (p := ⟨w.heap.size, 1, none⟩) (by simp; omega)).trans c1)
    have A0 := hid ((GWs.cell (p := ⟨W2.heap.size, 0, none⟩) (by simp; omega)).trans a0.out)
    have A1 := hid ((GWs.cell (p := ⟨W2.heap.size, 1, none⟩) (by simp; omega)).trans a1.out)
    have HSW := hid sWs
    clear hWs c0 c1 a0 a1 sWs
    go_loopw [11, 13] (fun sv i wr => ∃ k : Nat, k ≤ cs.length ∧ i = .int .i64 k ∧ (∃ sm : Int, sv = .int .i64 sm ∧ Hid ((levelAt mean (cs.take k) t).1 ≤ sm ∧ sm ≤ (levelAt mean (cs.take k) t).2)) ∧
      Hid (∃ v, wr.ownsRow Ws.heap.size 68 6 v k (conVals (rowsOf wideC ha hc cs k)) ∧ wr.cell? ⟨W3.heap.size, 1, none⟩ = some v) ∧
      Hid (wr.cell? ⟨W3.heap.size, 0, none⟩ = some (.int .i64 mean)) ∧ Hid (∀ o, wr.frozen? ⟨W3.heap.size, o, none⟩ = false) ∧ Below W3.heap.size Ws wr) (fun _ i _ => cs.length - (intOf i).toNat)
    case atStart => exact ⟨0, Nat.zero_le _, rfl, ⟨mean, rfl, hid ⟨by simp [levelAt], by simp [levelAt]⟩⟩, hid ⟨_, World.ownsRow_nil _ _ _ _, U1.out⟩, U0, UF, Below.refl _ _⟩
    case round =>
      obtain ⟨k, hk, rfl, ⟨sm, rfl, hsm⟩, hvo, hu0, huf, hbw⟩ := hrel
      obtain ⟨v, hown, hu1⟩ := hvo.out
      have HOwn := hid hown; clear hown hvo
      have hsz : W3.heap.size < wr.heap.size := by have := hbw.size; have := HSW.out; omega
      have hsz2 : Ws.heap.size ≤ wr.heap.size := hbw.size
      have e0 := (hbw.cell (p := ⟨w.heap.size, 0, none⟩) (by simp; omega)).trans C0.out
      have e1 := (hbw.cell (p := ⟨w.heap.size, 1, none⟩) (by simp; omega)).trans C1.out
      have hbl : Below w.heap.size w wr := BWs.trans (hbw.mono (by omega))
      by_cases hlt : k < cs.length
      · obtain ⟨b, o, rfl, hs, hca⟩ := HRw.out k hlt
        obtain ⟨d0, d1, d2, d3, d4, d5, chs⟩ := hca.later hs hbl (Nat.le_refl _)
        have HSn := hid (rowsOf_snoc wideC ha hc cs k hlt)
        have HLn := hid (levelAt_snoc mean cs t k hlt)
        have HGd := hid (HG.out.2.2 cs[k] (List.getElem_mem _))
        have HBd := hid (levelAt_half (cs := cs.take k) (fun c hc => HG.out.2.2 c (List.mem_of_mem_take hc)) (by simp; omega) HG.out.1.1 HG.out.1.2 t)
        have HIs := hid chs
        clear hca chs
        generalize cs[k] = c at *
        generalize ha k = hak at *
        generalize hc k = hck at *
        generalize levelAt mean (cs.take k) t = s at *
        obtain ⟨⟨s1, s2⟩, s3, s4⟩ := HBd.out
        obtain ⟨hsm1, hsm2⟩ := hsm.out
        clear HBd
        obtain ⟨kk, hkk, hkl, hr0, hr1⟩ := hk_bd HGd.out t
        have hpq := placeOf_bd HGd.out t
        have hcy := cyc_bd HGd.out
        have hPl := hid (show (c.off + c.step * t) % (c.den * (c.hs.length : Int)) = placeOf c t from rfl)
        have hgd := HGd.out
        obtain ⟨g1, g2, gh, g3, g4, g5, g6, g7, g8, g9, g10⟩ := hgd
        have hm1' : 0 ≤ c.step * t := Int.mul_nonneg (by omega) ht0
        have hm2' : c.step * t ≤ 100000 * 200000 := Int.mul_le_mul g8 ht1 (by omega) (by omega)
        have hcyd : c.den * (c.hs.length : Int) = cyc c := rfl
        have hpart := hid (show partAt c t = (heightN c kk (placeOf c t % c.den) / c.den - c.slack, upq (heightN c kk (placeOf c t % c.den)) c.den + c.slack) by unfold partAt partP; rw [hkk, Int.toNat_natCast])
        have HSh := hid (show conCells (wideC k c) hak hck = [.string c.name, .slice hak c.hs.length hck, .int .i64 c.off, .int .i64 c.step, .int .i64 c.den, .int .i64 (min 1000 (c.slack + 1 + (k : Int)))] from rfl)
        rcases HIs.out with h0 | ⟨hb, ho, rfl, hbs, hcells⟩
        · rw [h0] at g1; simp at g1
        have hm' : (kk + 1) % c.hs.length < c.hs.length := Nat.mod_lt _ (by omega)
        have x1 := hcells kk hkl
        have x2 := hcells _ hm'
        have k1 := gh kk hkl
        have k2 := gh _ hm'
        have hN := hid (show heightN c kk (placeOf c t % c.den) = c.hs[kk] * (c.den - placeOf c t % c.den) + c.hs[(kk + 1) % c.hs.length] * (placeOf c t % c.den) by simp [heightN, List.getD, hkl, hm'])
        generalize c.hs[kk] = x at *
        generalize hgy : c.hs[(kk + 1) % c.hs.length] = y at *
        clear hgy hcells gh HIs
        obtain ⟨k11, k12⟩ := k1
        obtain ⟨k21, k22⟩ := k2
        have z : ((kk : Int) + 1) % (c.hs.length : Int) = (((kk + 1) % c.hs.length : Nat) : Int) := by norm_cast
        have mb2 : -10000000 ≤ x * (c.den - placeOf c t % c.den) ∧ x * (c.den - placeOf c t % c.den) ≤ 10000000 := mul_bd k11 k12 (by omega) (by omega)
        have mb3 : -10000000 ≤ y * (placeOf c t % c.den) ∧ y * (placeOf c t % c.den) ≤ 10000000 := mul_bd k21 k22 hr0 (by omega)
        have kz : (((kk + 1) % c.hs.length : Nat) : Int) < (c.hs.length : Int) := by omega
        have kkl : (kk : Int) < (c.hs.length : Int) := by omega
        have hbx : hb < wr.heap.size := hbs
        generalize hmm : (kk + 1) % c.hs.length = m at *
        generalize hpl : placeOf c t = p at *
        generalize hrr : p % c.den = r at *
        generalize hcc : cyc c = cy at *
        rw [hcyd] at hPl
        have hd0 : ¬ c.den = 0 := by omega
        have hl0 : ¬ (c.hs.length : Int) = 0 := by omega
        have hl0' : ((c.hs.length : Int) == 0) = false := by rw [beq_eq_false_iff_ne]; omega
        have hcy0 : ¬ cy = 0 := by omega
        have hPt : (c.off + c.step * t).tmod cy = p := by rw [Int.tmod_eq_emod_of_nonneg (by omega)]; exact hPl.out
        have ho1 : (c.hs.length : Int) ≤ 48 := by omega
        go_wp2_with fail
        generalize hV : World.alloc wr _ = V
        have BV : Below wr.heap.size wr V := by rw [← hV]; exact (Below.refl _ _).alloc (Nat.le_refl _) _
        have SV : wr.heap.size < V.heap.size := by rw [← hV]; simp
        have f0 : V.cell? ⟨wr.heap.size, 0, none⟩ = some (.string c.name) := by rw [← hV]; simp [go_sem]
        have f1 : V.cell? ⟨wr.heap.size, 1, none⟩ = some (.slice (some ⟨hb, ho, none⟩) c.hs.length hck) := by rw [← hV]; simp [go_sem]
        have f2 : V.cell? ⟨wr.heap.size, 2, none⟩ = some (.int .i64 c.off) := by rw [← hV]; simp [go_sem]
        have f3 : V.cell? ⟨wr.heap.size, 3, none⟩ = some (.int .i64 c.step) := by rw [← hV]; simp [go_sem]
        have f4 : V.cell? ⟨wr.heap.size, 4, none⟩ = some (.int .i64 c.den) := by rw [← hV]; simp [go_sem]
        have f5 : V.cell? ⟨wr.heap.size, 5, none⟩ = some (.int .i64 c.slack) := by rw [← hV]; simp [go_sem]
        have ff : ∀ q, V.frozen? ⟨wr.heap.size, q, none⟩ = false := by intro q; rw [← hV]; simp [go_sem]
        have x1' := (BV.cell (p := ⟨hb, ho + kk, none⟩) hbx).trans x1
        have x2' := (BV.cell (p := ⟨hb, ho + m, none⟩) hbx).trans x2
        clear hV d0 d1 d2 d3 d4 d5 x1 x2 e0 e1
        go_quiet (fail)
        generalize hNn : x * (c.den - r) + y * r = N at *
        have hNb : -20000000 ≤ N ∧ N ≤ 20000000 := by omega
        obtain ⟨hN1, hN2⟩ := hNb
        have hHN : Half N := ⟨by omega, by omega⟩
        have htd : -20000000 ≤ N.tdiv c.den ∧ N.tdiv c.den ≤ 20000000 := by
          have q1 := div_bd (n := N) (b := 20000000) ⟨hN1, hN2⟩ g3
          by_cases g : N.tmod c.den < 0
          · have h1 := tdiv_neg N c.den (by omega) g
            have h2 : N < 0 := by
              rcases Int.lt_or_le N 0 with h | h
              · exact h
              · have := Int.tmod_nonneg c.den h; omega
            have h3 : N / c.den ≤ -1 := by have := Int.ediv_neg_of_neg_of_pos h2 (show 0 < c.den by omega); omega
            omega
          · have := tdiv_pos N c.den (by omega) g; omega
        have HTn := hid (fun (hs : 0 ≤ c.slack) => bet_tdiv (h := N) (d := c.den) (s := c.slack) g3 hs)
        have HNear := hid (fun (xx : Int) h1 h2 => bet_near (h := N) (d := c.den) (s := c.slack) (x := xx) g3 h1 h2)
        have hsd : 0 ≤ c.slack * c.den ∧ c.slack * c.den ≤ 1000 * 1000 := ⟨Int.mul_nonneg g9 (by omega), Int.mul_le_mul g10 g4 (by omega) (by omega)⟩
        obtain ⟨hsd1, hsd2⟩ := hsd
        generalize hV2 : V.drewN _ = V2
        have BV2 : Below wr.heap.size wr V2 := by rw [← hV2]; exact below_drewN BV _
        have SV2 : wr.heap.size < V2.heap.size := by rw [← hV2]; simpa using SV
        have f0' : V2.cell? ⟨wr.heap.size, 0, none⟩ = some (.string c.name) := by rw [← hV2]; exact f0
        have f1' : V2.cell? ⟨wr.heap.size, 1, none⟩ = some (.slice (some ⟨hb, ho, none⟩) c.hs.length hck) := by rw [← hV2]; exact f1
        have f2' : V2.cell? ⟨wr.heap.size, 2, none⟩ = some (.int .i64 c.off) := by rw [← hV2]; exact f2
        have f3' : V2.cell? ⟨wr.heap.size, 3, none⟩ = some (.int .i64 c.step) := by rw [← hV2]; exact f3
        have f4' : V2.cell? ⟨wr.heap.size, 4, none⟩ = some (.int .i64 c.den) := by rw [← hV2]; exact f4
        have f5' : V2.cell? ⟨wr.heap.size, 5, none⟩ = some (.int .i64 c.slack) := by rw [← hV2]; exact f5
        have ff' : ∀ q, V2.frozen? ⟨wr.heap.size, q, none⟩ = false := by intro q; rw [← hV2]; exact ff q
        clear hV2 f0 f1 f2 f3 f4 f5 ff x1' x2' hNn z mb2 mb3 hPt hmm hkk hrr BV SV
        clear g5 g6 g7 g8 hm1' hm2' hcyd hcy hcy0 hpq k11 k12 k21 k22 kz kkl hr0 hr1 hbx ho1 hl0 hl0' hHN
        go_upto_if 130 with fail
        go_cut [18] (fun s18 wx => ∃ dv : Int, s18 = .int .i64 dv ∧ (-1000 ≤ dv ∧ dv ≤ 1000) ∧ Below V2.heap.size V2 wx)
        case first =>
          by_cases hdx : k < dl.length
          · rcases (HDa.out.later hbl (Nat.le_refl _)) with h0 | ⟨bs, os, rfl, hss, hcs⟩
            · rw [h0] at hdx; simp at hdx
            have zz := (BV2.cell (p := ⟨bs, os + k, none⟩) hss).trans (hcs k hdx)
            obtain ⟨sb0, sb1⟩ := HDb.out dl[k] (List.getElem_mem _)
            generalize dl[k] = dx at *
            obtain ⟨⟨dv1, dv2⟩, dv3, dv4⟩ := dv_bd g9 g10 sb0 sb1
            have hdx' : (k : Int) < (dl.length : Int) := by omega
            clear hcs
            go_wp2_with fail
            go_quiet (fail)
            go_wp2_with fail
            go_meet
            exact ⟨_, rfl, ⟨dv3, dv4⟩, below_drewN (Below.refl _ _) _⟩
          · have hdx' : (dl.length : Int) ≤ (k : Int) := by omega
            go_wp2_with fail
            go_meet
            exact ⟨0, rfl, ⟨by omega, by omega⟩, Below.refl _ _⟩
        case rest =>
          obtain ⟨dv, rfl, ⟨dv1, dv2⟩, hB3⟩ := hcut
          obtain ⟨V3, hV3⟩ : ∃ V, V = wc := ⟨_, rfl⟩
          subst hV3
          have BV3 : Below wr.heap.size wr V3 := BV2.trans (hB3.mono (by omega))
          have SV3 : wr.heap.size < V3.heap.size := Nat.lt_of_lt_of_le SV2 hB3.size
          have k0 := (hB3.cell (p := ⟨wr.heap.size, 0, none⟩) SV2).trans f0'
          have k1 := (hB3.cell (p := ⟨wr.heap.size, 1, none⟩) SV2).trans f1'
          have k2 := (hB3.cell (p := ⟨wr.heap.size, 2, none⟩) SV2).trans f2'
          have k3 := (hB3.cell (p := ⟨wr.heap.size, 3, none⟩) SV2).trans f3'
          have k4 := (hB3.cell (p := ⟨wr.heap.size, 4, none⟩) SV2).trans f4'
          have k5 := (hB3.cell (p := ⟨wr.heap.size, 5, none⟩) SV2).trans f5'
          have kf : ∀ q, V3.frozen? ⟨wr.heap.size, q, none⟩ = false := fun q => (hB3.frozen (p := ⟨wr.heap.size, q, none⟩) SV2).trans (ff' q)
          clear f0' f1' f2' f3' f4' f5' ff' hB3 BV2 SV2
          generalize hT : N.tdiv c.den = T at *
          obtain ⟨X, hX⟩ : ∃ X, T + dv = X := ⟨_, rfl⟩
          have hXb : -20001000 ≤ X ∧ X ≤ 20001000 := by omega
          obtain ⟨hXb1, hXb2⟩ := hXb
          obtain ⟨hxd1, hxd2⟩ := xd_bd hXb1 hXb2 g3 g4
          go_upto_region 23 with fail
          go_cut [172] (fun s172 wx => s172 = .bool (decide (c.slack * c.den < X * c.den - N ∨ c.slack * c.den < N - X * c.den)) ∧ wx = V3)
          case first =>
            by_cases cA : c.slack * c.den < X * c.den - N
            · have hd : decide (c.slack * c.den < X * c.den - N ∨ c.slack * c.den < N - X * c.den) = true := by simp [cA]
              have HDd := hid hd; clear hd
              go_wp2_with fail
              go_meet
              exact ⟨by rw [HDd.out], rfl⟩
            · by_cases cB : c.slack * c.den < N - X * c.den
              · have hd : decide (c.slack * c.den < X * c.den - N ∨ c.slack * c.den < N - X * c.den) = true := by simp [cB]
                have HDd := hid hd; clear hd
                go_wp2_with fail
                go_meet
                exact ⟨by rw [HDd.out], rfl⟩
              · have hd : decide (c.slack * c.den < X * c.den - N ∨ c.slack * c.den < N - X * c.den) = false := decide_eq_false (by omega)
                have HDd := hid hd; clear hd
                go_wp2_with fail
                go_meet
                exact ⟨by rw [HDd.out], rfl⟩
          case rest =>
            obtain ⟨rfl, hwc⟩ := hcut
            subst hwc
            obtain ⟨V3, hV3⟩ : ∃ V, V = wc := ⟨_, rfl⟩
            subst hV3
            obtain ⟨bad, hbad⟩ : ∃ bad, decide (c.slack * c.den < X * c.den - N ∨ c.slack * c.den < N - X * c.den) = bad := ⟨_, rfl⟩
            rw [hbad]
            have HBad := hid hbad
            clear hbad
            go_upto_if 172 with fail
            go_cut [19] (fun s19 wx => ∃ xx : Int, s19 = .int .i64 xx ∧ (N / c.den - c.slack ≤ xx ∧ xx ≤ upq N c.den + c.slack) ∧ (-20001000 ≤ xx ∧ xx ≤ 20001000) ∧ wx = V3)
            case first =>
              cases bad
              · have hn := of_decide_eq_false HBad.out
                have hnr := HNear.out X (by omega) (by omega)
                go_wp2_with fail
                go_meet
                exact ⟨X, rfl, hnr, ⟨hXb1, hXb2⟩, rfl⟩
              · have hTn := HTn.out g9
                by_cases ct : N.tmod c.den = 0
                · have ht0 : (N.tmod c.den != 0) = false := by simp [ct]
                  clear ct
                  go_wp2_with fail
                  go_meet
                  exact ⟨T, rfl, hTn, ⟨by omega, by omega⟩, rfl⟩
                · have ht0 : (N.tmod c.den != 0) = true := by simp [ct]
                  by_cases cs0 : c.slack = 0
                  · have hs' : (c.slack == 0) = true := by simp [cs0]
                    clear ct cs0
                    go_wp2_with fail
                    refine (awake_any _).mono ?_
                    rintro e W4 ⟨rfl, B4⟩
                    go_wp2_with fail
                    go_ret
                    exact ⟨rfl, (hbl.trans (BV3.mono (by have := hbl.size; omega))).trans (B4.mono (by have := hbl.size; omega))⟩
                  · have hs' : (c.slack == 0) = false := by simp [cs0]
                    clear ct cs0
                    go_wp2_with fail
                    go_meet
                    exact ⟨T, rfl, hTn, ⟨by omega, by omega⟩, rfl⟩
            case rest =>
              obtain ⟨xx, rfl, ⟨hx1, hx2⟩, ⟨hx3, hx4⟩, hwc⟩ := hcut
              subst hwc
              obtain ⟨V3, hV3⟩ : ∃ V, V = wc := ⟨_, rfl⟩
              subst hV3
              have HX1 := hid hx1; have HX2 := hid hx2
              have hpt := hpart.out
              rw [hN.out] at hpt
              have HPt := hid hpt
              have uf1 := (BV3.frozen (p := ⟨W3.heap.size, 1, none⟩) (by simp; omega)).trans (huf.out 1)
              have u1' := (BV3.cell (p := ⟨W3.heap.size, 1, none⟩) (by simp; omega)).trans hu1
              have kf5 := kf 5
              have hvb := ownsRow_lt HOwn.out (.inr (Nat.le_refl wr.heap.size))
              have HO3 := hid (ownsRow_below HOwn.out BV3)
              have nu : W3.heap.size ≠ wr.heap.size := by omega
              clear hx1 hx2 hpt htd hN1 hN2 hX hXb1 hXb2 hxd1 hxd2 hsd1 hsd2 hT
              go_wp2_with (at_builtin; refine wpList_append_own _ rfl _ _ 22 rfl Ws.heap.size 68 i0 (.agg #[.string ⟨#[]⟩, .slice none 0 0, .int .i64 0, .int .i64 0, .int .i64 0, .int .i64 0]) 6 72 Try.underlying22 hi hz0 hz1 hz2 rfl (by decide) _ _ _ rfl ((ownsRow_set HO3.out ⟨wr.heap.size, 5, none⟩ _ hvb).alloc _) _ 1 1 [.string c.name, .slice (some ⟨hb, ho, none⟩) c.hs.length hck, .int .i64 c.off, .int .i64 c.step, .int .i64 c.den, .int .i64 (min 1000 (c.slack + 1 + (k : Int)))] rfl rfl (by intro j u hj; match j, hj with | 0, hj => simp at hj; subst hj; simp [Addr.add, go_sem] | 1, hj => simp at hj; subst hj; simp [Addr.add, go_sem] | 2, hj => simp at hj; subst hj; simp [Addr.add, go_sem] | 3, hj => simp at hj; subst hj; simp [Addr.add, go_sem] | 4, hj => simp at hj; subst hj; simp [Addr.add, go_sem] | 5, hj => simp at hj; subst hj; simp [Addr.add, go_sem]) (by intro u hu; simp at hu; rcases hu with rfl | rfl | rfl | rfl | rfl | rfl <;> rfl) (by unfold maxLen; omega) (by omega) (by simp [World.setCell]; omega) ?_)
              intro v' w1 hown' hgrow _
              have bV : Below (W3.heap.size + 1) wr w1 := (((BV3.mono (by omega)).setCell (p := ⟨wr.heap.size, 5, none⟩) (by simp; omega) _).alloc (by simp [World.setCell]; omega) _).trans (below_own ((ownsRow_set HO3.out ⟨wr.heap.size, 5, none⟩ _ hvb).alloc _) (by have := HSW.out; omega) (by simp [World.setCell]; omega) hgrow)
              have xx1 := (bV.cell (p := ⟨W3.heap.size, 1, none⟩) (by simp)).trans hu1
              have xx0 := hid ((bV.cell (p := ⟨W3.heap.size, 0, none⟩) (by simp)).trans hu0.out)
              have xf : ∀ o, w1.frozen? ⟨W3.heap.size, o, none⟩ = false := fun o => (bV.frozen (p := ⟨W3.heap.size, o, none⟩) (by simp)).trans (huf.out o)
              have xf1 := xf 1
              have HXf := hid xf
              have BX : Below W3.heap.size Ws w1 := hbw.trans (bV.mono (by omega))
              have HO := hid (show w1.ownsRow Ws.heap.size 68 6 v' (k + 1) (conVals (rowsOf wideC ha hc cs (k + 1))) by rw [HSn.out, conVals_snoc, HSh.out]; exact hown')
              obtain ⟨g, cp, hv'⟩ : ∃ g cp, v' = .slice (some ⟨g, 0, none⟩) (k + 1) cp := by
                rcases HO.out.2 with ⟨_, h⟩ | ⟨g, cp, _, h, _⟩
                · omega
                · exact ⟨g, cp, h⟩
              subst hv'
              clear hown' hgrow xf bV k0 k1 k2 k3 k4 k5 kf kf5 u1' hu1 uf1
              go_wp2_with fail
              go_roundw
              case rel =>
                refine ⟨k + 1, by omega, by go_num, ⟨_, rfl, hid ⟨?_, ?_⟩⟩, hid ⟨.slice (some ⟨g, 0, none⟩) (k + 1) cp, ?_, ?_⟩, hid ?_, hid (fun o => by simpa using HXf.out o), ?_⟩
                · rw [HLn.out]; unfold addP; rw [HPt.out]; have := HX1.out; have := hsm.out; simp only; omega
                · rw [HLn.out]; unfold addP; rw [HPt.out]; have := HX2.out; have := hsm.out; simp only; omega
                · exact ownsRow_set HO.out _ _ (ownsRow_lt HO.out (.inl (by simp; have := HSW.out; omega)))
                · exact World.cell?_setCell_same _ _ _ xx1
                · rw [World.cell?_setCell_other _ _ _ _ (by simp)]; exact xx0.out
                · exact BX.setCell (p := ⟨W3.heap.size, 1, none⟩) (Nat.le_refl _) _
              case measure => simp [intOf]; omega
      · obtain rfl : k = cs.length := by omega
        rw [List.take_length] at hsm
        obtain ⟨a', cap', hv, hcok⟩ := consOk_of_own (l := rowsOf wideC ha hc cs cs.length) (by rw [rowsOf_len]; exact HOwn.out) (by rw [rowsOf_len]; omega) (by
          intro r hr
          obtain ⟨i, hi', rfl⟩ := List.mem_map.1 hr
          have hi2 : i < cs.length := List.mem_range.1 hi'
          obtain ⟨b, o, _, hs, hca⟩ := HRw.out i hi2
          have e : cs.getD i default = cs[i] := by simp [List.getD, hi2]
          simp only [e]
          exact ⟨wide_wf (HH.out.wf _ (List.getElem_mem _)) (HG.out.2.2 _ (List.getElem_mem _)), (show IntsAt w (ha i) cs[i].hs from hca.hs).later hbl (Nat.le_refl _)⟩)
        rw [rowsOf_len] at hv
        rw [rowsOf_fst] at hcok
        subst hv
        have HCk' := hid hcok
        obtain ⟨q2, hq2⟩ : ∃ q2, levelP mean (cs.mapIdx wideC) t = q2 := ⟨_, rfl⟩
        have hq2v : q2 = (levelAt mean (cs.mapIdx wideC) t, 0) := by rw [← hq2]; exact levelP_of (by rw [checkP_map (f := wideC) wideC_nm wideC_good HCk.out]) ⟨ht0, ht1⟩
        have HLv' := hid hq2
        have hwi : q2.1.1 ≤ q.1.1 ∧ q.1.2 ≤ q2.1.2 := by rw [hq2v, HQv.out]; exact levelAt_wide HG.out.2.2 t
        have hhas : q.1.1 ≤ sm ∧ sm ≤ q.1.2 := by rw [HQv.out]; exact hsm.out
        have hq2t : (q2.2 == 0) = true := by rw [hq2v]; rfl
        have HWi := hid hwi; have HHs := hid hhas
        have u0 := hu0.out
        have s0 := (hbw.cell (p := ⟨W2.heap.size, 0, none⟩) (by simp; omega)).trans A0.out
        have s1 := (hbw.cell (p := ⟨W2.heap.size, 1, none⟩) (by simp; omega)).trans A1.out
        clear hcok hq2 hq2v HOwn hwi hhas
        go_wp2_with fail
        refine (levelValN mean a' cap' cs.length (cs.mapIdx wideC) t q2 _ (by simp) HCk'.out HLv'.out).mono ?_
        rintro e W6 ⟨rfl, B6⟩
        have sz6 := B6.size
        have s0' := (B6.cell (p := ⟨W2.heap.size, 0, none⟩) (by simp; omega)).trans s0
        have s1' := (B6.cell (p := ⟨W2.heap.size, 1, none⟩) (by simp; omega)).trans s1
        have n6 : W2.heap.size ≠ W6.heap.size := by omega
        have l6 : W2.heap.size < W6.heap.size := by omega
        have BL : Below w.heap.size w W6 := hbl.trans (B6.mono (by omega))
        clear B6 s0 s1 e0 e1 u0 hu1
        go_wp2_with fail
        refine (has_true q.1.1 q.1.2 sm _ HHs.out).mono ?_
        rintro e W7 ⟨rfl, B7⟩
        have sz7 := B7.size
        simp only [World.size_alloc] at sz7
        have s0 := (B7.cell (p := ⟨W2.heap.size, 0, none⟩) (by simp; omega)).trans (((Below.refl W6.heap.size W6).alloc (Nat.le_refl _) _).cell (p := ⟨W2.heap.size, 0, none⟩) l6 |>.trans s0')
        have s1 := (B7.cell (p := ⟨W2.heap.size, 1, none⟩) (by simp; omega)).trans (((Below.refl W6.heap.size W6).alloc (Nat.le_refl _) _).cell (p := ⟨W2.heap.size, 1, none⟩) l6 |>.trans s1')
        have z0 : W7.cell? ⟨W6.heap.size, 0, none⟩ = some (.int .i64 q2.1.1) := (B7.cell (p := ⟨W6.heap.size, 0, none⟩) (by simp)).trans (by simp [go_sem])
        have z1 : W7.cell? ⟨W6.heap.size, 1, none⟩ = some (.int .i64 q2.1.2) := (B7.cell (p := ⟨W6.heap.size, 1, none⟩) (by simp)).trans (by simp [go_sem])
        have BL7 : Below w.heap.size w W7 := (BL.alloc (by omega) _).trans (B7.mono (by simp; omega))
        clear B7 BL s0' s1'
        go_wp2_with fail
        refine (within_true' q.1.1 q.1.2 q2.1.1 q2.1.2 _ HWi.out).mono ?_
        rintro e W8 ⟨rfl, B8⟩
        have BL8 : Below w.heap.size w W8 := BL7.trans (B8.mono BL7.size)
        clear B8 BL7 s0 s1 z0 z1
        go_wp2_with fail
        refine (awake_any _).mono ?_
        rintro e W9 ⟨rfl, B9⟩
        have BL9 : Below w.heap.size w W9 := BL8.trans (B9.mono BL8.size)
        clear B9 BL8
        go_wp2_with fail
        go_ret
        exact ⟨rfl, BL9⟩
  · have hqf : (q.2 != 0) = true := by simp [hq0]
    go_wp2_with fail
    refine (awake_any _).mono ?_
    rintro e W4 ⟨rfl, B4⟩
    go_wp2_with fail
    go_ret
    exact ⟨rfl, BW3.trans (B4.mono (by omega))⟩
end Go.Proofs.Ytfjankkkeehioaa
