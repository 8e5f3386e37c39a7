/- Gate, part CB: the reference's sensors. -/
import Derived.Test.YtdoklolinbmhpaaCA
set_option linter.all false
namespace Go.Proofs.Ytdoklolinbmhpaa
open Go.RowKit

theorem senP_eq (g : Gt) : senP g = if ¬ ((g.ss.length : Int) ≤ 6) then (0, 3) else if (eachP (fun i => senE (g.ss.getD i default)) 0 g.ss.length).2 ≠ 0 then eachP (fun i => senE (g.ss.getD i default)) 0 g.ss.length else if inB g.wrong 0 g.ss.length = false then (0, 7) else (0, 0) := by
  unfold senP
  generalize eachP (fun i => senE (g.ss.getD i default)) 0 g.ss.length = x
  obtain ⟨a, b⟩ := x
  by_cases h : (g.ss.length : Int) ≤ 6
  · by_cases e : b = 0
    · cases hw : inB g.wrong 0 g.ss.length <;> simp [firstAt, mustP, h, e]
    · simp [firstAt, mustP, h, e]
  · simp [firstAt, mustP, h]
set_option maxRecDepth 100000 in
set_option maxHeartbeats 4000000 in
theorem rsensors_any (g : Gt) (p : GtP) (w : World) (hok : GtOk w p g) :
    Calls Try.prog 57 #[.agg (gtL g p).toArray] w fun e w' => e = .returned (.tuple #[.int .i64 (senP g).1, .int .i64 (senP g).2]) ∧ Below w.heap.size w w' := by
  have HE := hid (senP_eq g)
  have R := range_alloc w (gtL g p) 33
  have B1 : Below w.heap.size w (w.alloc (.cells (gtL g p).toArray 33)) := (Below.refl _ _).alloc (Nat.le_refl _) _
  have S1 : w.heap.size < (w.alloc (.cells (gtL g p).toArray 33)).heap.size := by simp
  have c19 := range_cell R (show (gtL g p)[19]? = some (.slice p.sa g.ss.length p.sc) from rfl)
  have c20 := range_cell R (show (gtL g p)[20]? = some (.int .i64 g.wrong) from rfl)
  have HO := hid (hok.later B1 (Nat.le_refl _)).ss
  clear hok R
  obtain ⟨n, hn⟩ : ∃ n, g.ss.length = n := ⟨_, rfl⟩
  obtain ⟨f, hf⟩ : ∃ f : Nat → Int, (fun i => senE (g.ss.getD i default)) = f := ⟨_, rfl⟩
  rw [hn, hf] at HE
  rw [hn] at c19
  have HN := hid hn
  have HF := hid hf
  clear hn hf
  go_enter Try.func57, Try.ntmps57
  by_cases h6 : n ≤ 6
  · have H6 := hid h6
    have z6 : decide (6 < (n : Int)) = false := by simp; omega
    rw [if_neg (by omega)] at HE
    clear h6
    go_wp2_with fail
    generalize World.alloc w _ = W1 at *
    go_loopw [4] (fun iv wr => ∃ i : Nat, i ≤ n ∧ iv = .int .i64 i ∧ Hid (eachP f 0 n = eachP f i (n - i)) ∧ Hid (Below W1.heap.size W1 wr)) (fun iv _ => n - (intOf iv).toNat)
    case atStart => exact ⟨0, Nat.zero_le _, rfl, hid rfl, hid (Below.refl _ _)⟩
    case round =>
      obtain ⟨i, hi, rfl, HL, hbw⟩ := hrel
      have BW := hid (bthen B1 hbw.out)
      have d19 : wr.cell? ⟨w.heap.size, 19, none⟩ = some (.slice p.sa n p.sc) := (hbw.out.cell (p := ⟨w.heap.size, 19, none⟩) S1).trans c19
      have d20 : wr.cell? ⟨w.heap.size, 20, none⟩ = some (.int .i64 g.wrong) := (hbw.out.cell (p := ⟨w.heap.size, 20, none⟩) S1).trans c20
      have S2 : w.heap.size < wr.heap.size := Nat.lt_of_lt_of_le S1 hbw.out.size
      by_cases hlt : i < n
      · have hig : i < g.ss.length := by rw [HN.out]; exact hlt
        obtain ⟨b, o, ea, hb0, hc⟩ := HO.out.row (by omega)
        have Rs := range_later (hc i hig) hbw.out hb0
        have HX := hid (show f i = senE g.ss[i] by rw [← HF.out]; simp [List.getD, hig])
        generalize g.ss[i] = s at *
        rw [ea] at d19 ⊢
        have s0 : wr.cell? ⟨b, o + i * 3, none⟩ = some (.int .i64 s.kind) := by simpa using Rs 0 _ (show (senL s)[0]? = some (.int .i64 s.kind) from rfl)
        have s1 : wr.cell? ⟨b, o + i * 3 + 1, none⟩ = some (.int .i64 s.at_) := Rs 1 _ rfl
        have s2 : wr.cell? ⟨b, o + i * 3 + 2, none⟩ = some (.int .i64 s.tol) := Rs 2 _ rfl
        have hiI : (i : Int) < (n : Int) := by omega
        have hi0 : (0 : Int) ≤ (i : Int) := Int.natCast_nonneg _
        have vi : IntKind.i64.wrap ((i : Int) + 1) = ((i + 1 : Nat) : Int) := by rw [IntWalk.i64_in _ (by have := H6.out; omega)]; omega
        have HBn := hid (hbw.out.trans ((((Below.refl wr.heap.size wr).alloc (Nat.le_refl _) (.cells #[.int .i64 s.kind, .int .i64 s.at_, .int .i64 s.tol] 107))).mono hbw.out.size))
        have HBf := hid (bthen BW.out (((Below.refl wr.heap.size wr).alloc (Nat.le_refl _) (.cells #[.int .i64 s.kind, .int .i64 s.at_, .int .i64 s.tol] 107))))
        clear hc hig hb0 ea Rs hbw
        have HS := hid (show senE s = if inB s.kind 1 2 = false ∨ (s.kind = 1 ∧ s.at_ ≠ 0) then 2 else if inB s.at_ 0 5000 = false ∨ inB s.tol 0 5000 = false then 7 else 0 from rfl)
        cases i1 : inB s.kind 1 2
        · skip
          have HG := hid (show eachP f i (n - i) = ((i : Int), 2) by rw [eachP_yes hlt (by rw [HX.out, HS.out, if_pos (.inl i1)]; simp), HX.out, HS.out, if_pos (.inl i1)])
          clear hlt
          go_wp2_with (go_at_call 42; refine (rin3 _ _ _ _).mono ?_; rintro e w' ⟨rfl, rfl⟩)
          go_ret2
          exact ⟨ret_two (by rw [HE.out, HL.out, HG.out, if_pos (by simp)]) (by rw [HE.out, HL.out, HG.out, if_pos (by simp)]), HBf.out⟩
        · by_cases hb : s.kind = 1 ∧ s.at_ ≠ 0
          · have k1 : (s.kind == 1) = true := by rw [hb.1]; rfl
            have a1 : (s.at_ != 0) = true := by simp [hb.2]
            have HG := hid (show eachP f i (n - i) = ((i : Int), 2) by rw [eachP_yes hlt (by rw [HX.out, HS.out, if_pos (.inr hb)]; simp), HX.out, HS.out, if_pos (.inr hb)])
            clear hlt hb
            go_wp2_with (go_at_call 42; refine (rin3 _ _ _ _).mono ?_; rintro e w' ⟨rfl, rfl⟩)
            go_ret2
            exact ⟨ret_two (by rw [HE.out, HL.out, HG.out, if_pos (by simp)]) (by rw [HE.out, HL.out, HG.out, if_pos (by simp)]), HBf.out⟩
          · have hno : ¬ (inB s.kind 1 2 = false ∨ (s.kind = 1 ∧ s.at_ ≠ 0)) := by rw [i1]; simpa using hb
            rw [if_neg hno] at HS
            by_cases hk : s.kind = 1
            · have k1 : (s.kind == 1) = true := by rw [hk]; rfl
              have a1 : (s.at_ != 0) = false := by
                have : s.at_ = 0 := Classical.byContradiction fun h => hb ⟨hk, h⟩
                simp [this]
              clear hb hno hk
              cases i2 : inB s.at_ 0 5000
              · skip
                have HG := hid (show eachP f i (n - i) = ((i : Int), 7) by rw [eachP_yes hlt (by rw [HX.out, HS.out, if_pos (.inl i2)]; simp), HX.out, HS.out, if_pos (.inl i2)])
                clear hlt
                go_wp2_with (go_at_call 42; refine (rin3 _ _ _ _).mono ?_; rintro e w' ⟨rfl, rfl⟩)
                go_ret2
                exact ⟨ret_two (by rw [HE.out, HL.out, HG.out, if_pos (by simp)]) (by rw [HE.out, HL.out, HG.out, if_pos (by simp)]), HBf.out⟩
              · cases i3 : inB s.tol 0 5000
                · skip
                  have HG := hid (show eachP f i (n - i) = ((i : Int), 7) by rw [eachP_yes hlt (by rw [HX.out, HS.out, if_pos (.inr i3)]; simp), HX.out, HS.out, if_pos (.inr i3)])
                  clear hlt
                  go_wp2_with (go_at_call 42; refine (rin3 _ _ _ _).mono ?_; rintro e w' ⟨rfl, rfl⟩)
                  go_ret2
                  exact ⟨ret_two (by rw [HE.out, HL.out, HG.out, if_pos (by simp)]) (by rw [HE.out, HL.out, HG.out, if_pos (by simp)]), HBf.out⟩
                · skip
                  have HG := hid (show eachP f i (n - i) = eachP f (i + 1) (n - (i + 1)) from eachP_no hlt (by rw [HX.out, HS.out, if_neg (by rw [i2, i3]; simp)]))
                  clear hlt
                  go_wp2_with (go_at_call 42; refine (rin3 _ _ _ _).mono ?_; rintro e w' ⟨rfl, rfl⟩)
                  exact ⟨⟨i + 1, by omega, by go_num, hid (HL.out.trans HG.out), HBn⟩, by simp [intOf]; omega⟩
            · have k1 : (s.kind == 1) = false := by simp [hk]
              clear hb hno hk
              cases i2 : inB s.at_ 0 5000
              · skip
                have HG := hid (show eachP f i (n - i) = ((i : Int), 7) by rw [eachP_yes hlt (by rw [HX.out, HS.out, if_pos (.inl i2)]; simp), HX.out, HS.out, if_pos (.inl i2)])
                clear hlt
                go_wp2_with (go_at_call 42; refine (rin3 _ _ _ _).mono ?_; rintro e w' ⟨rfl, rfl⟩)
                go_ret2
                exact ⟨ret_two (by rw [HE.out, HL.out, HG.out, if_pos (by simp)]) (by rw [HE.out, HL.out, HG.out, if_pos (by simp)]), HBf.out⟩
              · cases i3 : inB s.tol 0 5000
                · skip
                  have HG := hid (show eachP f i (n - i) = ((i : Int), 7) by rw [eachP_yes hlt (by rw [HX.out, HS.out, if_pos (.inr i3)]; simp), HX.out, HS.out, if_pos (.inr i3)])
                  clear hlt
                  go_wp2_with (go_at_call 42; refine (rin3 _ _ _ _).mono ?_; rintro e w' ⟨rfl, rfl⟩)
                  go_ret2
                  exact ⟨ret_two (by rw [HE.out, HL.out, HG.out, if_pos (by simp)]) (by rw [HE.out, HL.out, HG.out, if_pos (by simp)]), HBf.out⟩
                · skip
                  have HG := hid (show eachP f i (n - i) = eachP f (i + 1) (n - (i + 1)) from eachP_no hlt (by rw [HX.out, HS.out, if_neg (by rw [i2, i3]; simp)]))
                  clear hlt
                  go_wp2_with (go_at_call 42; refine (rin3 _ _ _ _).mono ?_; rintro e w' ⟨rfl, rfl⟩)
                  exact ⟨⟨i + 1, by omega, by go_num, hid (HL.out.trans HG.out), HBn⟩, by simp [intOf]; omega⟩
      · obtain rfl : i = n := by omega
        have hjj : ¬ ((i : Int) < (i : Int)) := by omega
        have e0 : eachP f 0 i = (0, 0) := by rw [HL.out, Nat.sub_self]; rfl
        rw [e0, if_neg (by simp)] at HE
        clear e0 hlt
        cases i1 : inB g.wrong 0 (i : Int)
        · rw [i1, if_pos rfl] at HE
          go_wp2_with (go_at_call 42; refine (rin3 _ _ _ _).mono ?_; rintro e w' ⟨rfl, rfl⟩)
          go_ret2
          exact ⟨ret_two (by rw [HE.out]) (by rw [HE.out]), BW.out⟩
        · rw [i1, if_neg (by simp)] at HE
          go_wp2_with (go_at_call 42; refine (rin3 _ _ _ _).mono ?_; rintro e w' ⟨rfl, rfl⟩)
          go_ret2
          exact ⟨ret_two (by rw [HE.out]) (by rw [HE.out]), BW.out⟩
  · have z6 : decide (6 < (n : Int)) = true := by simp; omega
    rw [if_pos (by omega)] at HE
    clear h6
    go_wp2_with fail
    go_ret2
    exact ⟨ret_two (by rw [HE.out]) (by rw [HE.out]), B1⟩
end Go.Proofs.Ytdoklolinbmhpaa
