/- Tide, part X: the check of a gauge, the reference. -/
import Derived.Test.YtblneiegekdnjaaGreatTL
import Derived.Test.YtblneiegekdnjaaGreatTE
set_option linter.all false
namespace Go.Proofs.YtblneiegekdnjaaGreat
open Go.RowKit

theorem rtick_val (v : Bool) (x : Int) (w : World) (hv : inB x 0 200000 = v) :
    Calls Tryz.prog 60 #[.int .i64 x] w fun e w' => e = .returned (.bool v) ∧ w = w' := by
  rw [← hv]; exact rtick_any x w
theorem rnameV (s : ByteArray) (w : World) (v : Bool) (hs : s.size ≤ maxLen) (hv : nameB s.data.toList = v) :
    Calls Tryz.prog 64 #[.string s] w fun e w' => e = .returned (.bool v) ∧ w = w' := by
  rw [← hv]; exact rname_any s w hs

theorem ret3g {x : Int × Int × Int} {a b c : Int} (h : x = (a, b, c)) : Ending.returned (.tuple #[.int .i64 a, .int .i64 b, .int .i64 c]) = Ending.returned (.tuple #[.int .i64 x.1, .int .i64 x.2.1, .int .i64 x.2.2]) := by rw [h]
theorem gp_name {g : Gau} (h : nameB g.name.data.toList = false) : gaugeP g = (1, 0, 6) := by
  unfold gaugeP headE; simp [h]
theorem gp_range {g : Gau} (h : nameB g.name.data.toList = true) (h2 : (inB g.err 0 5000 && inB g.rate 0 5000) = false) : gaugeP g = (1, 0, 7) := by
  unfold gaugeP headE; simp only [h, h2]; simp
theorem gp_head {g : Gau} (h : nameB g.name.data.toList = true) (h2 : inB g.err 0 5000 = true) (h3 : inB g.rate 0 5000 = true) : headE g = 0 := by
  unfold headE; simp [h, h2, h3]
theorem gp_dlen {g : Gau} (h : headE g = 0) (h2 : inB g.ds.length 1 8 = false) : gaugeP g = (2, 0, 3) := by
  unfold gaugeP datsP; simp [h, h2]
theorem gp_dat {g : Gau} (h : headE g = 0) (h2 : inB g.ds.length 1 8 = true) {k : Nat} {e : Int} (h3 : eachP (datE g.ds) 0 g.ds.length = ((k : Int), e)) (he : e ≠ 0) : gaugeP g = (2, (k : Int), e) := by
  unfold gaugeP datsP; simp [h, h2, h3, he]
theorem gp_rlen {g : Gau} (h : headE g = 0) (h2 : inB g.ds.length 1 8 = true) (h3 : eachP (datE g.ds) 0 g.ds.length = (0, 0)) (h4 : 60 < g.rs.length) : gaugeP g = (3, 0, 3) := by
  unfold gaugeP datsP rdgsP; simp [h, h2, h3, h4]
theorem gp_rdg {g : Gau} (h : headE g = 0) (h2 : inB g.ds.length 1 8 = true) (h3 : eachP (datE g.ds) 0 g.ds.length = (0, 0)) (h4 : ¬ 60 < g.rs.length) {k : Nat} {e : Int} (h5 : eachP (rdgE g.rs) 0 g.rs.length = ((k : Int), e)) (he : e ≠ 0) : gaugeP g = (3, (k : Int), e) := by
  unfold gaugeP datsP rdgsP; simp [h, h2, h3, h4, h5, he]
theorem gp_ok {g : Gau} (h : headE g = 0) (h2 : inB g.ds.length 1 8 = true) (h3 : eachP (datE g.ds) 0 g.ds.length = (0, 0)) (h4 : ¬ 60 < g.rs.length) (h5 : eachP (rdgE g.rs) 0 g.rs.length = (0, 0)) : gaugeP g = (0, 0, 0) := by
  unfold gaugeP datsP rdgsP; simp [h, h2, h3, h4, h5]

/-- The error of a datum, way by way. -/
theorem datE_zero {ds : List Dat} {d : Dat} (h : 0 < ds.length) (hd : ds[0] = d) : datE ds 0 = if inB d.from_ 0 200000 = true ∧ inB d.lo (-5000) d.hi = true ∧ d.hi ≤ 5000 ∧ d.from_ = 0 then 0 else 7 := by
  subst hd
  have e : datB ds 0 = decide (inB ds[0].from_ 0 200000 = true ∧ inB ds[0].lo (-5000) ds[0].hi = true ∧ ds[0].hi ≤ 5000 ∧ ds[0].from_ = 0) := by
    unfold datB
    simp only [List.getD, h, getElem?_pos, Option.getD_some, if_true]
    rw [Bool.eq_iff_iff]
    simp only [Bool.and_eq_true, decide_eq_true_iff, insB_iff, inB_iff]
    omega
  unfold datE; rw [e]; simp only [decide_eq_true_iff]
theorem datE_succ {ds : List Dat} {k : Nat} {d p : Dat} (h : k < ds.length) (h0 : 0 < k) (hd : ds[k] = d) (hp : ds[k - 1]'(by omega) = p) : datE ds k = if inB d.from_ 0 200000 = true ∧ inB d.lo (-5000) d.hi = true ∧ d.hi ≤ 5000 ∧ p.from_ < d.from_ then 0 else 7 := by
  subst hd hp
  have hk : k - 1 < ds.length := by omega
  have h0' : k ≠ 0 := by omega
  have e : datB ds k = decide (inB ds[k].from_ 0 200000 = true ∧ inB ds[k].lo (-5000) ds[k].hi = true ∧ ds[k].hi ≤ 5000 ∧ ds[k - 1].from_ < ds[k].from_) := by
    unfold datB
    simp only [List.getD, h, hk, getElem?_pos, Option.getD_some, h0', if_false]
    rw [Bool.eq_iff_iff]
    simp only [Bool.and_eq_true, decide_eq_true_iff, insB_iff, inB_iff]
    omega
  unfold datE; rw [e]; simp only [decide_eq_true_iff]
theorem datE_k0 {ds : List Dat} {k : Nat} {d : Dat} (hk : k = 0) (h : k < ds.length) (hd : ds[k] = d) : datE ds k = if inB d.from_ 0 200000 = true ∧ inB d.lo (-5000) d.hi = true ∧ d.hi ≤ 5000 ∧ d.from_ = 0 then 0 else 7 := by
  subst hk; exact datE_zero h hd
theorem rdgE_k0 {rs : List Rdg} {k : Nat} {r : Rdg} (hk : k = 0) (h : k < rs.length) (hd : rs[k] = r) : rdgE rs k = if inB r.tick 0 200000 = true ∧ inB r.value (-30000) 30000 = true then 0 else 7 := by
  subst hk hd
  have e : rdgB rs 0 = decide (inB rs[0].tick 0 200000 = true ∧ inB rs[0].value (-30000) 30000 = true) := by
    unfold rdgB
    simp only [List.getD, h, getElem?_pos, Option.getD_some]
    simp
  unfold rdgE; rw [e]; simp only [decide_eq_true_iff]
theorem rdgE_succ {rs : List Rdg} {k : Nat} {r p : Rdg} (h : k < rs.length) (h0 : 0 < k) (hd : rs[k] = r) (hp : rs[k - 1]'(by omega) = p) : rdgE rs k = if inB r.tick 0 200000 = true ∧ inB r.value (-30000) 30000 = true ∧ p.tick < r.tick then 0 else 7 := by
  subst hd hp
  have hk : k - 1 < rs.length := by omega
  have h0' : k ≠ 0 := by omega
  have e : rdgB rs k = decide (inB rs[k].tick 0 200000 = true ∧ inB rs[k].value (-30000) 30000 = true ∧ rs[k - 1].tick < rs[k].tick) := by
    unfold rdgB
    simp only [List.getD, h, hk, getElem?_pos, Option.getD_some]
    rw [Bool.eq_iff_iff]
    simp only [Bool.and_eq_true, Bool.or_eq_true, decide_eq_true_iff, h0', false_or]
    exact ⟨fun ⟨⟨a, b⟩, c⟩ => ⟨a, c, b⟩, fun ⟨a, c, b⟩ => ⟨⟨a, b⟩, c⟩⟩
  unfold rdgE; rw [e]; simp only [decide_eq_true_iff]

set_option maxRecDepth 100000 in
set_option maxHeartbeats 2000000 in
theorem rcheckGauge_any (g : Gau) (p : GPos) (w : World) (hok : GauOk w p g) :
    Calls Tryz.prog 84 #[.agg #[.string g.name, .int .i64 g.err, .int .i64 g.rate, .slice p.da g.ds.length p.dc, .slice p.ra g.rs.length p.rc]] w
      fun e w' => e = .returned (.tuple #[.int .i64 (gaugeP g).1, .int .i64 (gaugeP g).2.1, .int .i64 (gaugeP g).2.2]) ∧ Below w.heap.size w w' := by
  have hrl := hok.wf.rlen
  have hrc := hok.wf.rcap
  have hdl := hok.wf.dlen
  have hdc := hok.wf.dcap
  have HS := hid hok.wf.name
  have HH := hid hok; clear hok
  cases hn : nameB g.name.data.toList
  · have HP := hid (gp_name hn)
    have HN := hid hn; clear hn
    go_enter Tryz.func84, Tryz.ntmps84
    go_wp2_with (go_at_call 64; refine (rnameV _ _ false HS.out HN.out).mono ?_; rintro e w' ⟨rfl, rfl⟩)
    go_ret3
    exact ⟨ret3g HP.out, (Below.refl _ _).alloc (Nat.le_refl _) _⟩
  have HN := hid hn
  cases he : inB g.err 0 5000
  · have HP := hid (gp_range hn (by rw [he]; rfl))
    have HE := hid he; clear hn
    go_enter Tryz.func84, Tryz.ntmps84
    go_wp2_with (first | (go_at_call 64; refine (rnameV _ _ true HS.out HN.out).mono ?_; rintro e w' ⟨rfl, rfl⟩) | (go_at_call 39; refine (rin_val _ _ _ _ _ (by assumption)).mono ?_; rintro e w' ⟨rfl, rfl⟩))
    go_ret3
    exact ⟨ret3g HP.out, (Below.refl _ _).alloc (Nat.le_refl _) _⟩
  cases hr : inB g.rate 0 5000
  · have HP := hid (gp_range hn (by rw [he, hr]; rfl))
    have HE := hid he; clear hn
    go_enter Tryz.func84, Tryz.ntmps84
    go_wp2_with (first | (go_at_call 64; refine (rnameV _ _ true HS.out HN.out).mono ?_; rintro e w' ⟨rfl, rfl⟩) | (go_at_call 39; refine (rin_val _ _ _ _ _ (by assumption)).mono ?_; rintro e w' ⟨rfl, rfl⟩))
    go_ret3
    exact ⟨ret3g HP.out, (Below.refl _ _).alloc (Nat.le_refl _) _⟩
  have HHd := hid (gp_head hn he hr)
  clear hn
  cases hl : inB g.ds.length 1 8
  · have HP := hid (gp_dlen HHd.out hl)
    go_enter Tryz.func84, Tryz.ntmps84
    go_wp2_with (first | (go_at_call 64; refine (rnameV _ _ true HS.out HN.out).mono ?_; rintro e w' ⟨rfl, rfl⟩) | (go_at_call 39; refine (rin_val _ _ _ _ _ (by assumption)).mono ?_; rintro e w' ⟨rfl, rfl⟩))
    go_ret3
    exact ⟨ret3g HP.out, (Below.refl _ _).alloc (Nat.le_refl _) _⟩
  have HL := hid hl
  go_enter Tryz.func84, Tryz.ntmps84
  go_wp2_with (first | (go_at_call 64; refine (rnameV _ _ true HS.out HN.out).mono ?_; rintro e w' ⟨rfl, rfl⟩) | (go_at_call 39; refine (rin_val _ _ _ _ _ (by assumption)).mono ?_; rintro e w' ⟨rfl, rfl⟩))
  clear he hr hl
  generalize hW1 : World.alloc w _ = W1
  have B1 : Below w.heap.size w W1 := by rw [← hW1]; exact (Below.refl _ _).alloc (Nat.le_refl _) _
  have S1 : w.heap.size < W1.heap.size := by rw [← hW1]; simp
  have hbox : GauBox W1 w.heap.size g p := by rw [← hW1]; exact ⟨by simp [go_sem], by simp [go_sem], by simp [go_sem], by simp [go_sem], by simp [go_sem]⟩
  clear hW1
  have HB := hid hbox; clear hbox
  go_loopw [5] (fun i wr => ∃ k : Nat, k ≤ g.ds.length ∧ i = .int .i64 k ∧ Hid (eachP (datE g.ds) 0 g.ds.length = eachP (datE g.ds) k (g.ds.length - k)) ∧ Below (w.heap.size + 1) W1 wr) (fun i _ => g.ds.length - (intOf i).toNat)
  case atStart => exact ⟨0, Nat.zero_le _, rfl, hid rfl, Below.refl _ _⟩
  case round =>
    obtain ⟨k, hk, rfl, hf, hbw⟩ := hrel
    obtain ⟨c0, c1, c2, c3, c4⟩ := HB.out.later hbw (by omega)
    have hbl : Below w.heap.size w wr := B1.trans (hbw.mono (by omega))
    have hsz : w.heap.size < wr.heap.size := Nat.lt_of_lt_of_le S1 hbw.size
    have hwn : w.heap.size ≠ wr.heap.size := by omega
    by_cases hlt : k < g.ds.length
    · rcases HH.out.ds with h0 | ⟨b, o, hda, hs, hc⟩
      · rw [h0] at hlt; simp at hlt
      obtain ⟨q0, q1, q2⟩ := DatAt.later hbl _ _ _ hs (hc k hlt)
      have hbr : b < wr.heap.size := by omega
      have hbn : b ≠ wr.heap.size := by omega
      rw [hda] at c3
      have HDa := hid hda; clear hda
      have HYes := hid (fun he => eachP_yes (f := datE g.ds) hlt he)
      have HNo := hid (fun he => eachP_no (f := datE g.ds) hlt he)
      have HBad := hid (fun (h7 : datE g.ds k = 7) => gp_dat HHd.out HL.out (k := k) (e := 7) (by rw [hf.out, HYes.out (by rw [h7]; decide), h7]) (by decide))
      have HGood := hid (fun (h0 : datE g.ds k = 0) => hid (hf.out.trans (HNo.out h0)))
      clear HYes HNo hf
      by_cases hk0 : k = 0
      · have HE := hid (datE_k0 hk0 hlt rfl)
        have hkb : ((k : Int) == 0) = true := by simp [hk0]
        clear hc hk0
        generalize g.ds[k] = d at *
        cases hT : inB d.from_ 0 200000
        · have HT := hid hT
          go_wp2_with (first | (go_at_call 60; refine (rtick_val _ _ _ (by assumption)).mono ?_; rintro e w' ⟨rfl, rfl⟩) | (go_at_call 39; refine (rin_val _ _ _ _ _ (by assumption)).mono ?_; rintro e w' ⟨rfl, rfl⟩))
          go_ret3
          exact ⟨ret3g (HBad.out (by rw [HE.out, if_neg (fun h => by have := h.1; rw [HT.out] at this; cases this)])), hbl.alloc (by omega) _⟩
        cases hI : inB d.lo (-5000) d.hi
        · have HI := hid hI
          go_wp2_with (first | (go_at_call 60; refine (rtick_val _ _ _ (by assumption)).mono ?_; rintro e w' ⟨rfl, rfl⟩) | (go_at_call 39; refine (rin_val _ _ _ _ _ (by assumption)).mono ?_; rintro e w' ⟨rfl, rfl⟩))
          go_ret3
          exact ⟨ret3g (HBad.out (by rw [HE.out, if_neg (fun h => by have := h.2.1; rw [HI.out] at this; cases this)])), hbl.alloc (by omega) _⟩
        by_cases hH : 5000 < d.hi
        · have HH5 := hid (show ¬ d.hi ≤ 5000 by omega)
          have hdH : decide (d.hi ≤ 5000) = false := by simp; omega
          go_wp2_with (first | (go_at_call 60; refine (rtick_val _ _ _ (by assumption)).mono ?_; rintro e w' ⟨rfl, rfl⟩) | (go_at_call 39; refine (rin_val _ _ _ _ _ (by assumption)).mono ?_; rintro e w' ⟨rfl, rfl⟩))
          go_ret3
          exact ⟨ret3g (HBad.out (by rw [HE.out, if_neg (fun h => by have := HH5.out; have := h.2.2.1; omega)])), hbl.alloc (by omega) _⟩
        have hdH : decide (d.hi ≤ 5000) = true := by simp; omega
        by_cases hF0 : ¬ d.from_ = 0
        · have HF := hid hF0
          have hF : (d.from_ == 0) = false := by rw [beq_eq_false_iff_ne]; exact hF0
          clear hF0
          go_wp2_with (first | (go_at_call 60; refine (rtick_val _ _ _ (by assumption)).mono ?_; rintro e w' ⟨rfl, rfl⟩) | (go_at_call 39; refine (rin_val _ _ _ _ _ (by assumption)).mono ?_; rintro e w' ⟨rfl, rfl⟩))
          go_ret3
          exact ⟨ret3g (HBad.out (by rw [HE.out, if_neg (fun h => by have := HF.out; have := h.2.2.2; omega)])), hbl.alloc (by omega) _⟩
        have HT := hid hT; have HI := hid hI; have HH5 := hid (show d.hi ≤ 5000 by omega)
        have HF := hid (Decidable.not_not.1 hF0)
        have hF : (d.from_ == 0) = true := by rw [beq_iff_eq]; exact HF.out
        clear hF0
        go_wp2_with (first | (go_at_call 60; refine (rtick_val _ _ _ (by assumption)).mono ?_; rintro e w' ⟨rfl, rfl⟩) | (go_at_call 39; refine (rin_val _ _ _ _ _ (by assumption)).mono ?_; rintro e w' ⟨rfl, rfl⟩))
        exact ⟨⟨k + 1, by omega, by go_num, HGood.out (by rw [HE.out, if_pos ⟨HT.out, HI.out, HH5.out, HF.out⟩]), hbw.alloc (by omega) _⟩, by simp [intOf]; omega⟩
      · obtain ⟨p0, _, _⟩ := DatAt.later hbl _ _ _ hs (hc (k - 1) (by omega))
        have HE := hid (datE_succ hlt (by omega) rfl rfl)
        have hkb : ((k : Int) == 0) = false := by rw [beq_eq_false_iff_ne]; omega
        have hi2 : (k : Int) - 1 = ((k - 1 : Nat) : Int) := by omega
        have hi3 : ((k - 1 : Nat) : Int) < (g.ds.length : Int) := by omega
        have hw : IntKind.i64.wrap ((k : Int) - 1) = ((k - 1 : Nat) : Int) := by rw [← hi2]; exact IntWalk.i64_in _ (by omega)
        clear hc
        generalize g.ds[k] = d at *
        generalize g.ds[k - 1]'(by omega) = pd at *
        generalize k - 1 = j at *
        cases hT : inB d.from_ 0 200000
        · have HT := hid hT
          go_wp2_with (first | (go_at_call 60; refine (rtick_val _ _ _ (by assumption)).mono ?_; rintro e w' ⟨rfl, rfl⟩) | (go_at_call 39; refine (rin_val _ _ _ _ _ (by assumption)).mono ?_; rintro e w' ⟨rfl, rfl⟩))
          go_region
          go_wp2_with fail
          go_ret3
          exact ⟨ret3g (HBad.out (by rw [HE.out, if_neg (fun h => by have := h.1; rw [HT.out] at this; cases this)])), (hbl.alloc (by omega) _).drew⟩
        cases hI : inB d.lo (-5000) d.hi
        · have HI := hid hI
          go_wp2_with (first | (go_at_call 60; refine (rtick_val _ _ _ (by assumption)).mono ?_; rintro e w' ⟨rfl, rfl⟩) | (go_at_call 39; refine (rin_val _ _ _ _ _ (by assumption)).mono ?_; rintro e w' ⟨rfl, rfl⟩))
          go_region
          go_wp2_with fail
          go_ret3
          exact ⟨ret3g (HBad.out (by rw [HE.out, if_neg (fun h => by have := h.2.1; rw [HI.out] at this; cases this)])), (hbl.alloc (by omega) _).drew⟩
        by_cases hH : 5000 < d.hi
        · have HH5 := hid (show ¬ d.hi ≤ 5000 by omega)
          have hdH : decide (d.hi ≤ 5000) = false := by simp; omega
          go_wp2_with (first | (go_at_call 60; refine (rtick_val _ _ _ (by assumption)).mono ?_; rintro e w' ⟨rfl, rfl⟩) | (go_at_call 39; refine (rin_val _ _ _ _ _ (by assumption)).mono ?_; rintro e w' ⟨rfl, rfl⟩))
          go_region
          go_wp2_with fail
          go_ret3
          exact ⟨ret3g (HBad.out (by rw [HE.out, if_neg (fun h => by have := HH5.out; have := h.2.2.1; omega)])), (hbl.alloc (by omega) _).drew⟩
        have hdH : decide (d.hi ≤ 5000) = true := by simp; omega
        by_cases hF : ¬ pd.from_ < d.from_
        · have HF := hid hF
          have hdF : decide (pd.from_ < d.from_) = false := by simp; omega
          go_wp2_with (first | (go_at_call 60; refine (rtick_val _ _ _ (by assumption)).mono ?_; rintro e w' ⟨rfl, rfl⟩) | (go_at_call 39; refine (rin_val _ _ _ _ _ (by assumption)).mono ?_; rintro e w' ⟨rfl, rfl⟩))
          go_region
          go_wp2_with fail
          go_ret3
          exact ⟨ret3g (HBad.out (by rw [HE.out, if_neg (fun h => by have := HF.out; have := h.2.2.2; omega)])), (hbl.alloc (by omega) _).drew⟩
        have HT := hid hT; have HI := hid hI; have HH5 := hid (show d.hi ≤ 5000 by omega)
        have HF := hid (Decidable.not_not.1 hF)
        have hF' := HF.out
        have hdF : decide (pd.from_ < d.from_) = true := by simp; omega
        clear hF
        go_wp2_with (first | (go_at_call 60; refine (rtick_val _ _ _ (by assumption)).mono ?_; rintro e w' ⟨rfl, rfl⟩) | (go_at_call 39; refine (rin_val _ _ _ _ _ (by assumption)).mono ?_; rintro e w' ⟨rfl, rfl⟩))
        go_region
        go_wp2_with fail
        exact ⟨⟨k + 1, by omega, by go_num, HGood.out (by rw [HE.out, if_pos ⟨HT.out, HI.out, HH5.out, HF.out⟩]), (hbw.alloc (by omega) _).drew⟩, by simp [intOf]; omega⟩
    · obtain rfl : k = g.ds.length := by omega
      have HD0 : Hid (eachP (datE g.ds) 0 g.ds.length = (0, 0)) := hid (by rw [hf.out, Nat.sub_self]; rfl)
      clear hf
      by_cases h60 : 60 < g.rs.length
      · have HP := hid (gp_rlen HHd.out HL.out HD0.out h60)
        have h60' : (60 : Int) < g.rs.length := by omega
        go_wp2_with fail
        go_ret3
        exact ⟨ret3g HP.out, hbl⟩
      · have h60' : ¬ (60 : Int) < g.rs.length := by omega
        go_wp2_with fail
        clear c0 c1 c2 c3 c4
        go_loopw [8] (fun i wx => ∃ k : Nat, k ≤ g.rs.length ∧ i = .int .i64 k ∧ Hid (eachP (rdgE g.rs) 0 g.rs.length = eachP (rdgE g.rs) k (g.rs.length - k)) ∧ Below (w.heap.size + 1) W1 wx) (fun i _ => g.rs.length - (intOf i).toNat)
        case atStart => exact ⟨0, Nat.zero_le _, rfl, hid rfl, hbw⟩
        case round =>
          obtain ⟨k, hk, rfl, hf, hbx⟩ := hrel
          obtain ⟨c0, c1, c2, c3, c4⟩ := HB.out.later hbx (by omega)
          have hbl2 : Below w.heap.size w wr := B1.trans (hbx.mono (by omega))
          have hsz2 : w.heap.size < wr.heap.size := Nat.lt_of_lt_of_le S1 hbx.size
          have hwn2 : w.heap.size ≠ wr.heap.size := by omega
          by_cases hlt : k < g.rs.length
          · rcases HH.out.rs with h0 | ⟨b, o, hra, hs, hc⟩
            · rw [h0] at hlt; simp at hlt
            obtain ⟨q0, q1⟩ := RdgAt.later hbl2 _ _ _ hs (hc k hlt)
            have hbr : b < wr.heap.size := by omega
            have hbn : b ≠ wr.heap.size := by omega
            rw [hra] at c4
            have HRa := hid hra; clear hra
            have HYes := hid (fun he => eachP_yes (f := rdgE g.rs) hlt he)
            have HNo := hid (fun he => eachP_no (f := rdgE g.rs) hlt he)
            have HBad := hid (fun (h7 : rdgE g.rs k = 7) => gp_rdg HHd.out HL.out HD0.out h60 (k := k) (e := 7) (by rw [hf.out, HYes.out (by rw [h7]; decide), h7]) (by decide))
            have HGood := hid (fun (h0 : rdgE g.rs k = 0) => hid (hf.out.trans (HNo.out h0)))
            clear HYes HNo hf c0 c1 c2 c3
            by_cases hk0 : k = 0
            · have HE := hid (rdgE_k0 hk0 hlt rfl)
              have hkb : decide ((0 : Int) < (k : Int)) = false := by simp [hk0]
              have hkn : decide (0 < k) = false := decide_eq_false (by omega)
              clear hc hk0
              generalize g.rs[k] = r at *
              cases hT : inB r.tick 0 200000
              · have HT := hid hT
                go_wp2_with fail
                go_quiet ((first | (go_at_call 60; exact Calls.quiet_of_same' (rtick_val _ _ _ (by assumption))) | (go_at_call 39; exact Calls.quiet_of_same' (rin_val _ _ _ _ _ (by assumption)))))
                go_wp2_with fail
                go_ret3
                exact ⟨ret3g (HBad.out (by rw [HE.out, if_neg (fun h => by have := h.1; rw [HT.out] at this; cases this)])), by repeat (first | exact hbl2 | refine Below.alloc ?_ (by omega) _ | refine Below.drew ?_ | refine below_drewN ?_ _)⟩
              cases hI : inB r.value (-30000) 30000
              · have HI := hid hI
                go_wp2_with fail
                go_quiet ((first | (go_at_call 60; exact Calls.quiet_of_same' (rtick_val _ _ _ (by assumption))) | (go_at_call 39; exact Calls.quiet_of_same' (rin_val _ _ _ _ _ (by assumption)))))
                go_wp2_with fail
                go_ret3
                exact ⟨ret3g (HBad.out (by rw [HE.out, if_neg (fun h => by have := h.2; rw [HI.out] at this; cases this)])), by repeat (first | exact hbl2 | refine Below.alloc ?_ (by omega) _ | refine Below.drew ?_ | refine below_drewN ?_ _)⟩
              have HT := hid hT; have HI := hid hI
              go_wp2_with fail
              go_quiet ((first | (go_at_call 60; exact Calls.quiet_of_same' (rtick_val _ _ _ (by assumption))) | (go_at_call 39; exact Calls.quiet_of_same' (rin_val _ _ _ _ _ (by assumption)))))
              go_wp2_with fail
              exact ⟨⟨k + 1, by omega, by go_num, HGood.out (by rw [HE.out, if_pos ⟨HT.out, HI.out⟩]), by repeat (first | exact hbx | refine Below.alloc ?_ (by omega) _ | refine Below.drew ?_ | refine below_drewN ?_ _)⟩, by simp [intOf]; omega⟩
            · obtain ⟨p0, _⟩ := RdgAt.later hbl2 _ _ _ hs (hc (k - 1) (by omega))
              have HE := hid (rdgE_succ hlt (by omega) rfl rfl)
              have hkb : decide ((0 : Int) < (k : Int)) = true := by simp; omega
              have hkn : decide (0 < k) = true := decide_eq_true (by omega)
              have hkp : 0 < k := by omega
              have hi2 : (k : Int) - 1 = ((k - 1 : Nat) : Int) := by omega
              have hi3 : ((k - 1 : Nat) : Int) < (g.rs.length : Int) := by omega
              have hw : IntKind.i64.wrap ((k : Int) - 1) = ((k - 1 : Nat) : Int) := by rw [← hi2]; exact IntWalk.i64_in _ (by omega)
              clear hc
              generalize g.rs[k] = r at *
              generalize g.rs[k - 1]'(by omega) = pr at *
              generalize k - 1 = j at *
              cases hT : inB r.tick 0 200000
              · have HT := hid hT
                go_wp2_with fail
                go_quiet ((first | (go_at_call 60; exact Calls.quiet_of_same' (rtick_val _ _ _ (by assumption))) | (go_at_call 39; exact Calls.quiet_of_same' (rin_val _ _ _ _ _ (by assumption)))))
                go_wp2_with fail
                go_ret3
                exact ⟨ret3g (HBad.out (by rw [HE.out, if_neg (fun h => by have := h.1; rw [HT.out] at this; cases this)])), by repeat (first | exact hbl2 | refine Below.alloc ?_ (by omega) _ | refine Below.drew ?_ | refine below_drewN ?_ _)⟩
              cases hI : inB r.value (-30000) 30000
              · have HI := hid hI
                go_wp2_with fail
                go_quiet ((first | (go_at_call 60; exact Calls.quiet_of_same' (rtick_val _ _ _ (by assumption))) | (go_at_call 39; exact Calls.quiet_of_same' (rin_val _ _ _ _ _ (by assumption)))))
                go_wp2_with fail
                go_ret3
                exact ⟨ret3g (HBad.out (by rw [HE.out, if_neg (fun h => by have := h.2.1; rw [HI.out] at this; cases this)])), by repeat (first | exact hbl2 | refine Below.alloc ?_ (by omega) _ | refine Below.drew ?_ | refine below_drewN ?_ _)⟩
              have HT := hid hT; have HI := hid hI
              by_cases hF : ¬ pr.tick < r.tick
              · have HF := hid hF
                have hdF : decide (r.tick ≤ pr.tick) = true := by simp; omega
                go_wp2_with fail
                go_quiet ((first | (go_at_call 60; exact Calls.quiet_of_same' (rtick_val _ _ _ (by assumption))) | (go_at_call 39; exact Calls.quiet_of_same' (rin_val _ _ _ _ _ (by assumption)))))
                go_wp2_with fail
                go_ret3
                exact ⟨ret3g (HBad.out (by rw [HE.out, if_neg (fun h => by have := HF.out; have := h.2.2; omega)])), by repeat (first | exact hbl2 | refine Below.alloc ?_ (by omega) _ | refine Below.drew ?_ | refine below_drewN ?_ _)⟩
              have HF := hid (Decidable.not_not.1 hF)
              have hF2 := HF.out
              have hdF : decide (r.tick ≤ pr.tick) = false := by simp; omega
              clear hF
              go_wp2_with fail
              go_quiet ((first | (go_at_call 60; exact Calls.quiet_of_same' (rtick_val _ _ _ (by assumption))) | (go_at_call 39; exact Calls.quiet_of_same' (rin_val _ _ _ _ _ (by assumption)))))
              go_wp2_with fail
              exact ⟨⟨k + 1, by omega, by go_num, HGood.out (by rw [HE.out, if_pos ⟨HT.out, HI.out, HF.out⟩]), by repeat (first | exact hbx | refine Below.alloc ?_ (by omega) _ | refine Below.drew ?_ | refine below_drewN ?_ _)⟩, by simp [intOf]; omega⟩
          · obtain rfl : k = g.rs.length := by omega
            have HP := hid (gp_ok HHd.out HL.out HD0.out h60 (by rw [hf.out, Nat.sub_self]; rfl))
            clear hf
            go_wp2_with fail
            go_ret3
            exact ⟨ret3g HP.out, hbl2⟩
end Go.Proofs.YtblneiegekdnjaaGreat
