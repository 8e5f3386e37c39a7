/- Tide, part SO: Agree. -/
import Derived.Test.YtblneiegekdnjaaSN
import Derived.Deep.DeepCutAuto
import Derived.Deep.CutBlock
set_option linter.all false
namespace Go.Proofs.Ytblneiegekdnjaa
open Go.RowKit Go.Shelf

theorem A.infoBool : (Try.prog.info? 4).map (fun i => (i.zero, i.size, i.bytes)) = some (some (.bool false), 1, 1) := by kernel_rfl
theorem A.infoIntT : (Try.prog.info? 3).map (fun i => (i.zero, i.size, i.bytes)) = some (some (.int .i64 0), 1, 8) := by kernel_rfl
/-- What Agree returns. -/
def AgreeIs (gs : List Gau) (t now : Int) (m : Int) (L : List Int) (e : Int) : Prop :=
  if askE gs t now ≠ 0 then m = 0 ∧ L = [] ∧ e = askE gs t now else ManyOk (voiceL gs t now gs.length) m ∧ L = othersL gs t now (voiceL gs t now gs.length) m gs.length ∧ e = 0
theorem AgreeIs.unique {gs : List Gau} {t now m k e d : Int} {L M : List Int} (h : AgreeIs gs t now m L e) (g : AgreeIs gs t now k M d) : m = k ∧ L = M ∧ e = d := by
  unfold AgreeIs at h g
  split at h
  · rename_i h1; rw [if_pos h1] at g; exact ⟨h.1.trans g.1.symm, h.2.1.trans g.2.1.symm, h.2.2.trans g.2.2.symm⟩
  · rename_i h1; rw [if_neg h1] at g
    have hm := h.1.unique g.1
    exact ⟨hm, by rw [h.2.1, g.2.1, hm], h.2.2.trans g.2.2.symm⟩
/-- The spans on which the most agree. -/
structure MostOk (V : List Voice) (m : Nat) (F : List (Int × Int)) : Prop where
  many : ManyOk V m
  ne : ∀ s ∈ F, s.1 ≤ s.2
  cov : V = [] ∨ ∀ x, (∃ s ∈ F, s.1 ≤ x ∧ x ≤ s.2) ↔ (m : Int) ≤ cnt V x
theorem most_none (V : List Voice) (hV : ∀ v ∈ V, VoiceOk v) (h : ∀ x, (cnt V x : Int) ≤ 0) : MostOk V 0 [] := by
  match V with
  | [] => exact ⟨⟨fun x => by simpa using h x, .inl ⟨rfl, rfl⟩⟩, by simp, .inl rfl⟩
  | v :: V =>
    have h1 := h v.1
    have hv := hV v (by simp)
    have : 0 < cnt (v :: V) v.1 := by
      unfold cnt
      rw [List.countP_pos_iff]
      exact ⟨v, by simp, decide_eq_true ⟨Int.le_refl _, hv.le⟩⟩
    omega
theorem most_some {V : List Voice} {k : Nat} {F : List (Int × Int)} (h : AgreedOk V (k : Int) F) (hF : F ≠ []) (hm : ∀ x, (cnt V x : Int) ≤ k) : MostOk V k F := by
  refine ⟨⟨hm, .inr ?_⟩, h.ne, .inr h.cov⟩
  obtain ⟨s, r, rfl⟩ := List.exists_cons_of_ne_nil hF
  have := (h.cov s.1).1 ⟨s, by simp, Int.le_refl _, h.ne s (by simp)⟩
  exact ⟨s.1, by have := hm s.1; omega⟩
theorem agreed_none {V : List Voice} {k : Nat} {F : List (Int × Int)} (h : AgreedOk V (k : Int) F) (hF : F = []) (hk : 0 < k) : ∀ x, (cnt V x : Int) ≤ ((k - 1 : Nat) : Int) := fun x => by
  by_cases hc : (k : Int) ≤ cnt V x
  · obtain ⟨s, hs, _⟩ := (h.cov x).2 hc; rw [hF] at hs; cases hs
  · omega

/-- Does a voice meet one of the spans? -/
def hitB (F : List (Int × Int)) (v : Voice) : Bool := decide (0 ≤ idxP (fun j => meetB v.1 v.2.1 (F.getD j (0, 0))) 0 F.length)
theorem hitB_iff {F : List (Int × Int)} {v : Voice} : hitB F v = true ↔ ∃ s ∈ F, max v.1 s.1 ≤ min v.2.1 s.2 := by
  unfold hitB
  rw [decide_eq_true_iff, idxP_some]
  constructor
  · rintro ⟨j, _, h2, h3⟩
    have hj : j < F.length := by omega
    rw [show F.getD j (0, 0) = F[j] by simp [List.getD, hj]] at h3
    exact ⟨F[j], List.getElem_mem hj, of_decide_eq_true h3⟩
  · rintro ⟨s, hs, h⟩
    obtain ⟨j, hj, rfl⟩ := List.getElem_of_mem hs
    exact ⟨j, Nat.zero_le _, by omega, by rw [show F.getD j (0, 0) = F[j] by simp [List.getD, hj]]; exact decide_eq_true h⟩
/-- Which gauges are with the most, by the first j voices. -/
def wl (V : List Voice) (F : List (Int × Int)) : Nat → Nat → Bool
  | 0, _ => false
  | j + 1, i => if (V.getD j (0, 0, -1)).2.2 = (i : Int) then hitB F (V.getD j (0, 0, -1)) else wl V F j i
theorem wl_iff {V : List Voice} {F : List (Int × Int)} (hu : ∀ v ∈ V, ∀ u ∈ V, v.2.2 = u.2.2 → v = u) : ∀ j, j ≤ V.length → ∀ i : Nat, wl V F j i = true ↔ ∃ v ∈ V.take j, v.2.2 = (i : Int) ∧ hitB F v = true
  | 0, _, i => by simp [wl]
  | j + 1, hj, i => by
    have hj' : j < V.length := by omega
    have ih := wl_iff (F := F) hu j (by omega) i
    rw [wl, show V.getD j (0, 0, -1) = V[j] by simp [List.getD, hj'], List.take_succ_eq_append_getElem hj']
    by_cases h : V[j].2.2 = (i : Int)
    · rw [if_pos h]
      constructor
      · intro hh; exact ⟨V[j], List.mem_append_right _ (List.mem_singleton.2 rfl), h, hh⟩
      · rintro ⟨v, hv, h1, h2⟩
        have hvV : v ∈ V := by
          rcases List.mem_append.1 hv with hv | hv
          · exact List.mem_of_mem_take hv
          · rw [List.mem_singleton.1 hv]; exact List.getElem_mem _
        rw [← hu v hvV V[j] (List.getElem_mem _) (h1.trans h.symm)]; exact h2
    · rw [if_neg h, ih]
      constructor
      · rintro ⟨v, hv, h1, h2⟩; exact ⟨v, List.mem_append_left _ hv, h1, h2⟩
      · rintro ⟨v, hv, h1, h2⟩
        rcases List.mem_append.1 hv with hv | hv
        · exact ⟨v, hv, h1, h2⟩
        · rw [List.mem_singleton.1 hv] at h1; exact absurd h1 h
theorem voice_one {gs : List Gau} {t now : Int} {k : Nat} : ∀ v ∈ voiceL gs t now k, ∀ u ∈ voiceL gs t now k, v.2.2 = u.2.2 → v = u := by
  intro v hv u hu h
  obtain ⟨_, i, _, hi, _⟩ := voiceL_ok gs t now k v hv
  obtain ⟨_, j, _, hj, _⟩ := voiceL_ok gs t now k u hu
  have : (i : Int) = (j : Int) := by rw [hi, hj] at h; exact h
  have e : i = j := by omega
  subst e
  rw [hi, hj]
theorem wl_with {gs : List Gau} {t now : Int} {m : Nat} {F : List (Int × Int)} (h : MostOk (voiceL gs t now gs.length) m F) {i : Nat} (hi : i < gs.length) :
    wl (voiceL gs t now gs.length) F (voiceL gs t now gs.length).length i = withB (gs.getD i default) t now (voiceL gs t now gs.length) m := by
  rw [Bool.eq_iff_iff, wl_iff voice_one _ (Nat.le_refl _) i, List.take_length, withB_iff]
  constructor
  · rintro ⟨v, hv, h1, h2⟩
    obtain ⟨hok, j, _, hj, hz⟩ := voiceL_ok gs t now gs.length v hv
    have e : j = i := by have : (j : Int) = (i : Int) := by rw [hj] at h1; exact h1
                         omega
    subst e
    obtain ⟨s, hs, hm⟩ := hitB_iff.1 h2
    rcases h.cov with h0 | hc
    · rw [h0] at hv; cases hv
    have hcn := (hc (max v.1 s.1)).1 ⟨s, hs, by omega, by omega⟩
    have hmx := h.many.most (max v.1 s.1)
    refine ⟨max v.1 s.1, by omega, hasB_iff.2 ⟨hz, ?_⟩⟩
    rw [hj] at hm ⊢
    simp only at hm ⊢
    omega
  · rintro ⟨x, h1, h2⟩
    obtain ⟨hz, ha, hb⟩ := hasB_iff.1 h2
    have hv := voiceL_mem gs t now gs.length i hi hz
    refine ⟨_, hv, rfl, hitB_iff.2 ?_⟩
    rcases h.cov with h0 | hc
    · rw [h0] at hv; cases hv
    obtain ⟨s, hs, h3, h4⟩ := (hc x).2 (by omega)
    exact ⟨s, hs, by simp only; omega⟩

set_option maxRecDepth 100000 in
theorem meets_any (b o fc : Nat) (F : List (Int × Int)) (v : Voice) (vb : Nat) (w : World) (hl : F.length ≤ 16) (hb : b < w.heap.size) (hF : ∀ i (h : i < F.length), w.cell? ⟨b, o + i * 2, none⟩ = some (.int .i64 F[i].1) ∧ w.cell? ⟨b, o + i * 2 + 1, none⟩ = some (.int .i64 F[i].2))
    (h0 : w.cell? ⟨vb, 0, none⟩ = some (.int .i64 v.1)) (h1 : w.cell? ⟨vb, 1, none⟩ = some (.int .i64 v.2.1)) (hvb : vb < w.heap.size) :
    Calls Try.prog 80 #[.slice (some ⟨b, o, none⟩) F.length fc, .func (.func 81) #[] #[.pointer (some ⟨vb, 0, none⟩)]] w
      fun e w' => e = .returned (.bool (hitB F v)) ∧ Below w.heap.size w w' := by
  refine containsS_any w.heap.size w b o fc F.length F (fun j => meetB v.1 v.2.1 (F.getD j (0, 0))) _ _ w (Nat.le_refl _) (by omega) (Nat.le_refl _) (Below.refl _ _) hb hF ⟨callFunc_agree1, fun j h _ W hW => ?_⟩
  have := agree1_any vb v.1 v.2.1 F[j] W ((hW.cell (p := ⟨vb, 0, none⟩) hvb).trans h0) ((hW.cell (p := ⟨vb, 1, none⟩) hvb).trans h1) (by have := hW.size; omega)
  refine this.mono ?_
  rintro e w' ⟨rfl, hb'⟩
  exact ⟨by show _ = Ending.returned (Value.bool (meetB v.1 v.2.1 (F.getD j (0, 0)))); rw [show F.getD j (0, 0) = F[j] by simp [List.getD, h]], hb'⟩

set_option maxRecDepth 100000 in
set_option maxHeartbeats 16000000 in
theorem agree_any (a : Option Addr) (cap : Nat) (gs : List Gau) (t now : Int) (w : World) (hcap : gs.length ≤ cap) (hlen : gs.length ≤ 140737488355328) (hgs : GausAt w a gs) :
    Calls Try.prog 34 #[.slice a gs.length cap, .int .i64 t, .int .i64 now] w
      fun e w' => ∃ (m : Int) (L : List Int) (er : Int) (b : Option Addr) (c : Nat), e = .returned (.tuple #[.int .i64 m, .slice b L.length c, .int .i64 er]) ∧ IntsAt w' b L ∧ L.length ≤ 8 ∧ AgreeIs gs t now m L er ∧ Below w.heap.size w w' := by
  obtain ⟨i0, hi, hz0, hz1, hz2⟩ := info_parts A.infoBool
  obtain ⟨j0, hji, hy0, hy1, hy2⟩ := info_parts A.infoIntT
  have HGs := hid hgs; clear hgs
  go_enter Try.func34, Try.ntmps34
  go_wp2_with fail
  refine (askError_any a cap gs t now _ hcap hlen HGs.out).mono ?_
  rintro e W2 ⟨rfl, BW2⟩
  have HOk := hid (fun h => askE_ok (gs := gs) (t := t) (now := now) h)
  have HIs := hid (show ∀ m L e, AgreeIs gs t now m L e ↔ if askE gs t now ≠ 0 then m = 0 ∧ L = [] ∧ e = askE gs t now else ManyOk (voiceL gs t now gs.length) m ∧ L = othersL gs t now (voiceL gs t now gs.length) m gs.length ∧ e = 0 from fun m L e => Iff.rfl)
  generalize askE gs t now = ae at *
  by_cases ha : ae = 0
  · subst ha
    have HIa := hid (show ∀ m L e, (ManyOk (voiceL gs t now gs.length) m ∧ L = othersL gs t now (voiceL gs t now gs.length) m gs.length ∧ e = 0) → AgreeIs gs t now m L e from fun m L e h => (HIs.out m L e).2 (by rw [if_neg (by simp)]; exact h))
    obtain ⟨hl8, hgood, _, ht, _⟩ := HOk.out rfl
    have HGood := hid hgood
    clear HOk hgood HIs
    go_wp2_with fail
    refine (voices_any a cap gs t now _ hl8 HGood.out ht (HGs.out.later BW2 (Nat.le_refl _))).mono ?_
    rintro e W3 ⟨vb, vc, rfl, hv, B3⟩
    have BW3 : Below w.heap.size w W3 := BW2.trans (B3.mono BW2.size)
    have HV := hid hv
    have hvl := voiceL_len gs t now gs.length
    have HVo := hid (voiceL_oks gs t now gs.length)
    obtain ⟨V, hVe⟩ : ∃ V, V = voiceL gs t now gs.length := ⟨_, rfl⟩
    have HVg := hid (show ∀ v ∈ V, ∃ gi : Nat, gi < gs.length ∧ v.2.2 = (gi : Int) from fun v hv => by
      rw [hVe] at hv
      obtain ⟨_, i, hi, he, _⟩ := voiceL_ok gs t now gs.length v hv
      exact ⟨i, hi, by rw [he]⟩)
    rw [← hVe] at HIa HV hvl HVo
    rw [← hVe]
    have HVe := hid hVe
    clear hVe hv B3
    have s3 := BW3.size
    go_upto_block 0 with fail
    go_cut [6, 11] (fun s6 s11 wx => ∃ (m : Nat) (F : List (Int × Int)) (fa : Option Addr) (fc : Nat), s6 = .int .i64 m ∧ s11 = .slice fa F.length fc ∧ SpansAt wx fa F ∧ F.length ≤ 16 ∧ m ≤ V.length ∧ Hid (MostOk V m F) ∧ Below W3.heap.size W3 wx)
    case first =>
      go_wp2_with fail
      go_loopw [6, 11] (fun s6 s11 wr => ∃ (k : Nat) (fa : Option Addr) (fc : Nat), s6 = .int .i64 k ∧ s11 = .slice fa 0 fc ∧ k ≤ V.length ∧ Hid (∀ x, (cnt V x : Int) ≤ k) ∧ Below W3.heap.size W3 wr) (fun s6 _ _ => (intOf s6).toNat)
      case atStart => exact ⟨V.length, none, 0, rfl, rfl, Nat.le_refl _, hid (fun x => by have := cnt_le V x; omega), Below.refl _ _⟩
      case round =>
        obtain ⟨k, fa, fc, rfl, rfl, hk, hm, hbw⟩ := hrel
        by_cases hk0 : 0 < k
        · obtain ⟨j, rfl⟩ : ∃ j, k = j + 1 := ⟨k - 1, by omega⟩
          have hkI : (0 : Int) < ((j + 1 : Nat) : Int) := by omega
          have hbs := hbw.size
          go_wp2_with fail
          refine (agreed_any vb vc V ((j + 1 : Nat) : Int) _ (by omega) HVo.out (by omega) (by omega) (HV.out.later hbw (Nat.le_refl _))).mono ?_
          rintro e W4 ⟨fb, fc2, F, rfl, hF, hFl, hAg, B4⟩
          have BW4 : Below W3.heap.size W3 W4 := hbw.trans (B4.mono hbs)
          have HF := hid hF; have HA := hid hAg
          clear hF hAg B4
          by_cases hF0 : F.length = 0
          · have HN := hid (agreed_none HA.out (List.length_eq_zero_iff.1 hF0) (Nat.succ_pos j))
            rw [hF0]
            clear hFl HA HF hF0
            go_wp2_with fail
            refine ⟨⟨j, fb, fc2, by go_num, rfl, by omega, hid (by simpa using HN.out), BW4⟩, by simp [intOf]⟩
          · have hp : 0 < F.length := by omega
            have hne : ¬ F = [] := by intro e; rw [e] at hp; simp at hp
            have hd : decide ((0 : Int) < (F.length : Int)) = true := decide_eq_true (by omega)
            have HM := hid (most_some HA.out (by intro e; rw [e] at hF0; simp at hF0) hm.out)
            clear HA hF0
            go_wp2_with fail
            go_meet
            exact ⟨j + 1, F, fb, fc2, rfl, rfl, HF.out, hFl, hk, HM, BW4⟩
        · obtain rfl : k = 0 := by omega
          have HM := hid (most_none V HVo.out (by simpa using hm.out))
          go_wp2_with fail
          go_meet
          exact ⟨0, [], fa, fc, rfl, rfl, .inl rfl, by simp, Nat.zero_le _, HM, hbw⟩
    case rest =>
      obtain ⟨m, F, fa, fc, rfl, rfl, hF, hFl, hmV, hM, hbc⟩ := hcut
      have hsc := hbc.size
      have HF := hid hF
      have BWc : Below w.heap.size w wc := BW3.trans (hbc.mono s3)
      clear hF
      go_wp2_with ((at_make; refine wpList_make_full _ rfl _ _ _ rfl wc.heap.size 4 i0 (.bool false) 1 Try.underlying125 hi hz0 hz1 .i64 .i64 _ _ gs.length rfl rfl rfl rfl (by rw [hz2]; omega) (by unfold maxLen; omega) (Nat.le_refl _) ?_; intro W5 hown hgrow))
      have S5 : wc.heap.size < W5.heap.size := (hown.lt _ rfl).2
      have B5 : Below wc.heap.size wc W5 := (Below.refl _ _).grown hgrow (Nat.le_refl _) (by intro k e; cases e)
      have HC0 := hid (show ∀ i, i < gs.length → W5.cell? ⟨wc.heap.size, i, none⟩ = some (.bool false) from fun i hi => by
        have hsz : i < gs.length * 1 := by omega
        rw [hown.cellAt i hsz, show (Value.bool false).cells = #[Value.bool false] from rfl, toList_madeCells_one, Nat.mul_one, List.getElem?_replicate, if_pos hi])
      have HFz := hid (show ∀ o, W5.frozen? ⟨wc.heap.size, o, none⟩ = false from fun o => hown.frozenAt o)
      clear hown hgrow
      go_loopw [14, 45] (fun _ i wr => ∃ j : Nat, j ≤ V.length ∧ i = .int .i64 j ∧ Hid (∀ i, i < gs.length → wr.cell? ⟨wc.heap.size, i, none⟩ = some (.bool (wl V F j i))) ∧ Hid (∀ o, wr.frozen? ⟨wc.heap.size, o, none⟩ = false) ∧ Below wc.heap.size wc wr ∧ Hid (wc.heap.size < wr.heap.size)) (fun _ i _ => V.length - (intOf i).toNat)
      case atStart => exact ⟨0, Nat.zero_le _, rfl, HC0, HFz, B5, hid S5⟩
      case round =>
        obtain ⟨j, hj, rfl, hc, hfr, hbw, hszr⟩ := hrel
        by_cases hlt : j < V.length
        · have hsr := hszr.out
          rcases HV.out.later (hbc.trans (hbw.mono hsc)) (Nat.le_refl _) with h0 | ⟨b, o, rfl, hs, hvc⟩
          · rw [h0] at hlt; simp at hlt
          obtain ⟨v0, v1, v2⟩ := hvc j hlt
          obtain ⟨fg, fo, hfa, hfg, hfc⟩ : ∃ (fg fo : Nat), fa = some ⟨fg, fo, none⟩ ∧ fg < wc.heap.size ∧ ∀ i (h : i < F.length), wc.cell? ⟨fg, fo + i * 2, none⟩ = some (.int .i64 F[i].1) ∧ wc.cell? ⟨fg, fo + i * 2 + 1, none⟩ = some (.int .i64 F[i].2) := by
            rcases HF.out with h0 | ⟨g, o, ha, hs, hc⟩
            · exfalso
              rcases hM.out.cov with hV0 | hcov
              · rw [hV0] at hlt; simp at hlt
              · rcases hM.out.many.some with ⟨hV0, _⟩ | ⟨x, hx⟩
                · rw [hV0] at hlt; simp at hlt
                · obtain ⟨s, hs, _⟩ := (hcov x).2 (by omega); rw [h0] at hs; cases hs
            · exact ⟨g, o, ha, hs, hc⟩
          obtain ⟨gi, hgi, hgx⟩ := HVg.out V[j] (List.getElem_mem hlt)
          have HW := hid (show ∀ i : Nat, wl V F (j + 1) i = if V[j].2.2 = (i : Int) then hitB F V[j] else wl V F j i from fun i => by rw [wl, show V.getD j (0, 0, -1) = V[j] by simp [List.getD, hlt]])
          have hjI : (j : Int) < (V.length : Int) := by omega
          have HFc := hid hfc
          clear hvc hfc
          subst hfa
          generalize V[j] = x at *
          obtain ⟨lo, hi2, z⟩ := x
          simp only at v0 v1 v2 hgx
          subst hgx
          go_upto_region 15 with fail
          obtain ⟨VA, hVA⟩ : ∃ VA, VA = wr.alloc (.cells #[.int .i64 lo, .int .i64 hi2, .int .i64 (gi : Int)] 127) := ⟨_, rfl⟩
          have k0 : VA.cell? ⟨wr.heap.size, 0, none⟩ = some (.int .i64 lo) := by rw [hVA]; simp [go_sem]
          have k1 : VA.cell? ⟨wr.heap.size, 1, none⟩ = some (.int .i64 hi2) := by rw [hVA]; simp [go_sem]
          have k2 : VA.cell? ⟨wr.heap.size, 2, none⟩ = some (.int .i64 gi) := by rw [hVA]; simp [go_sem]
          have BA : Below wr.heap.size wr VA := by rw [hVA]; exact (Below.refl _ _).alloc (Nat.le_refl _) _
          have sA : VA.heap.size = wr.heap.size + 1 := by rw [hVA]; simp
          have hcA := hid (show ∀ i, i < gs.length → VA.cell? ⟨wc.heap.size, i, none⟩ = some (.bool (wl V F j i)) from fun i hi => (BA.cell (p := ⟨wc.heap.size, i, none⟩) hsr).trans (hc.out i hi))
          have hfA := hid (show ∀ o, VA.frozen? ⟨wc.heap.size, o, none⟩ = false from fun o => (BA.frozen (p := ⟨wc.heap.size, o, none⟩) hsr).trans (hfr.out o))
          have bWA : Below wc.heap.size wc VA := hbw.trans (BA.mono (by omega))
          have HFA : ∀ i (h : i < F.length), VA.cell? ⟨fg, fo + i * 2, none⟩ = some (.int .i64 F[i].1) ∧ VA.cell? ⟨fg, fo + i * 2 + 1, none⟩ = some (.int .i64 F[i].2) := fun i h => ⟨(bWA.cell (p := ⟨fg, _, none⟩) hfg).trans (HFc.out i h).1, (bWA.cell (p := ⟨fg, _, none⟩) hfg).trans (HFc.out i h).2⟩
          have HFA' := hid HFA
          have giI : (gi : Int) < (gs.length : Int) := by omega
          rw [← hVA]
          clear hVA HFA hc hfr HFc v0 v1 v2
          refine wp_region_noPanic ?_
          refine wp_region_held_drew (S := (fun w' => w'.cell? ⟨wr.heap.size, 2, none⟩ = some (.int .i64 gi))) (by kernel_rfl) ?_ (fun hHeld => ?_)
          · exact (by simpa using k2)
          refine wpAnyH_take (i := 0) (oi := { dst := _, op := _, type := _, pos := _, after := _, guard := _ }) (v := ?_) rfl (by kernel_rfl) (by kernel_rfl) (by kernel_rfl) (fun _ _ _ h => h) (Or.inl ⟨by rfl, ?_⟩) (by assumption) ?_
          rotate_left
          · intro wS hSw; (try dsimp only at hSw); go_simp; try (with_reducible rfl)
          try simp only [Act.put, List.setIfInBounds_toArray, List.set_cons_zero, List.set_cons_succ]
          refine wpAnyH_take (i := 1) (oi := { dst := _, op := _, type := _, pos := _, after := _, guard := _ }) (v := ?_) rfl (by kernel_rfl) (by kernel_rfl) (by kernel_rfl) (fun _ _ _ h => h) (Or.inl ⟨by rfl, ?_⟩) (by assumption) ?_
          rotate_left
          · intro wS hSw; (try dsimp only at hSw); go_simp; try (with_reducible rfl)
          try simp only [Act.put, List.setIfInBounds_toArray, List.set_cons_zero, List.set_cons_succ]
          refine wpAnyH_take (i := 2) (oi := { dst := _, op := _, type := _, pos := _, after := _, guard := _ }) (v := ?_) rfl (by kernel_rfl) (by kernel_rfl) (by kernel_rfl) (fun _ _ _ h => h) (Or.inl ⟨by rfl, ?_⟩) (by assumption) ?_
          rotate_left
          · intro wS hSw; (try dsimp only at hSw); go_simp; try (with_reducible rfl)
          try simp only [Act.put, List.setIfInBounds_toArray, List.set_cons_zero, List.set_cons_succ]
          refine wpAnyH_take (i := 3) (oi := { dst := _, op := _, type := _, pos := _, after := _, guard := _ }) (v := ?_) rfl (by kernel_rfl) (by kernel_rfl) (by kernel_rfl) (fun _ _ _ h => h) (Or.inl ⟨by rfl, ?_⟩) (by assumption) ?_
          rotate_left
          · intro wS hSw; (try dsimp only at hSw); go_simp; try (with_reducible rfl)
          try simp only [Act.put, List.setIfInBounds_toArray, List.set_cons_zero, List.set_cons_succ]
          refine wpAnyH_take (i := 4) (oi := { dst := _, op := _, type := _, pos := _, after := _, guard := _ }) (v := ?_) rfl (by kernel_rfl) (by kernel_rfl) (by kernel_rfl) (fun _ _ _ h => h) (Or.inl ⟨by rfl, ?_⟩) (by assumption) ?_
          rotate_left
          · intro wS hSw; (try dsimp only at hSw); go_simp; try (with_reducible rfl)
          try simp only [Act.put, List.setIfInBounds_toArray, List.set_cons_zero, List.set_cons_succ]
          refine wpAnyH_ready (rs := [5]) (by kernel_rfl) (by simp) ?_
          refine AllReadyH.cons (o := { dst := _, op := _, type := _, pos := _, after := _, guard := _ }) rfl (fun K hK => ?_) AllReadyH.nil
          go_simp
          (go_at_call 80; refine (meets_any fg fo fc F (lo, hi2, (gi : Int)) wr.heap.size _ hFl (by simp; omega) (fun i h => ⟨by simpa using (HFA'.out i h).1, by simpa using (HFA'.out i h).2⟩) (by simpa using k0) (by simpa using k1) (by simp; omega)).mono ?_; rintro e w' ⟨rfl, hb⟩; have kk2 : w'.cell? ⟨wr.heap.size, 2, none⟩ = some (.int .i64 gi) := (hb.cell (p := ⟨wr.heap.size, 2, none⟩) (by simp; omega)).trans (by simpa using k2); have ku : ∀ i, i < gs.length → w'.cell? ⟨wc.heap.size, i, none⟩ = some (.bool (wl V F j i)) := fun i hi => (hb.cell (p := ⟨wc.heap.size, i, none⟩) (by simp; omega)).trans (by simpa using hcA.out i hi); have kf : ∀ o, w'.frozen? ⟨wc.heap.size, o, none⟩ = false := fun o => (hb.frozen (p := ⟨wc.heap.size, o, none⟩) (by simp; omega)).trans (by simpa using hfA.out o); have kug := ku gi hgi; have kfg := kf gi; have KU := hid ku; have KF := hid kf; clear ku kf; have BWx : Below wc.heap.size wc w' := (bWA.drew).trans (hb.mono (by simp; omega)); have szx := hb.size; simp only [World.size_drew] at szx)
          try go_wp2_with fail
          refine hK.out _ _ ?_ (fun hHeld => ?_)
          · (try dsimp only); first | assumption | exact kk2 | (exact (World.cell?_setCell_other _ _ _ _ (by intro e; injection e; omega)).trans kk2)
          clear hK K
          try simp only [Act.put, List.setIfInBounds_toArray, List.set_cons_zero, List.set_cons_succ]
          refine wpAnyH_take (i := 6) (oi := { dst := _, op := _, type := _, pos := _, after := _, guard := _ }) (v := ?_) rfl (by kernel_rfl) (by kernel_rfl) (by kernel_rfl) (fun _ _ _ h => h) (Or.inl ⟨by rfl, ?_⟩) (by assumption) ?_
          rotate_left
          · intro wS hSw; (try dsimp only at hSw); go_simp; try (with_reducible rfl)
          try simp only [Act.put, List.setIfInBounds_toArray, List.set_cons_zero, List.set_cons_succ]
          refine wpAnyH_ready (rs := [7]) (by kernel_rfl) (by simp) ?_
          refine AllReadyH.cons (o := { dst := _, op := _, type := _, pos := _, after := _, guard := _ }) rfl (fun K hK => ?_) AllReadyH.nil
          go_simp
          refine hK.out _ _ ?_ (fun hHeld => ?_)
          · (try dsimp only); first | assumption | exact kk2 | (exact (World.cell?_setCell_other _ _ _ _ (by intro e; injection e; omega)).trans kk2)
          clear hK K
          try simp only [Act.put, List.setIfInBounds_toArray, List.set_cons_zero, List.set_cons_succ]
          refine wpAnyH_done (by kernel_rfl) ?_ _
          refine NoPanic.normal ?_
          go_wp2_with fail
          refine ⟨⟨j + 1, by omega, by go_num, hid ?_, hid ?_, ?_, hid ?_⟩, by simp [intOf]; omega⟩
          · intro i hi
            rw [HW.out i]
            by_cases e : i = gi
            · subst e
              rw [if_pos rfl]
              exact World.cell?_setCell_same' _ _ _ (by rw [kug]; rfl)
            · rw [if_neg (by show ¬ ((gi : Int) = (i : Int)); omega)]
              exact (World.cell?_setCell_other _ _ _ _ (by intro h; injection h with h1 h2; exact e h2.symm)).trans (KU.out i hi)
          · intro o; rw [World.frozen?_setCell]; exact KF.out o
          · exact BWx.setCell (p := ⟨wc.heap.size, gi, none⟩) (Nat.le_refl _) _
          · simp; omega
        · obtain rfl : j = V.length := by omega
          have HWl := hid (show ∀ i, i < gs.length → wl V F V.length i = withB (gs.getD i default) t now V m from fun i hi => by
            have := hM.out
            rw [HVe.out] at this ⊢
            exact wl_with this hi)
          have hsr := hszr.out
          have BWr : Below w.heap.size w wr := BWc.trans (hbw.mono (by omega))
          obtain ⟨WR, hWR⟩ : ∃ X, X = wr := ⟨_, rfl⟩
          subst hWR
          go_wp2_with fail
          go_loopw [7, 15, 16, 59] (fun v _ _ i wx => ∃ (k : Nat) (L : List Int), k ≤ gs.length ∧ i = .int .i64 k ∧ L.length ≤ k ∧ Hid (othersL gs t now V m k = L) ∧ Hid (wx.ownsRow WR.heap.size 3 1 v L.length (intVals L)) ∧ Below WR.heap.size WR wx) (fun _ _ _ i _ => gs.length - (intOf i).toNat)
          case atStart => exact ⟨0, [], Nat.zero_le _, rfl, Nat.le_refl _, hid rfl, hid (World.ownsRow_nil _ _ _ _), Below.refl _ _⟩
          case round =>
            obtain ⟨k, L, hk, rfl, hLk, hL, hown, hbx⟩ := hrel
            have hsx := hbx.size
            by_cases hlt : k < gs.length
            · have ck := (hbx.cell (p := ⟨wc.heap.size, k, none⟩) hsr).trans (hc.out k hlt)
              have hW := HWl.out k hlt
              have hkI : (k : Int) < (gs.length : Int) := by omega
              cases hb : wl V F V.length k
              · have HO := hid (hL.out ▸ othersL_no (hb ▸ hW).symm : othersL gs t now V m (k + 1) = L ++ [(k : Int)])
                rw [hb] at ck
                clear hb hW
                go_wp2_with (at_builtin; refine wpList_append_own _ rfl _ _ 52 rfl WR.heap.size 3 j0 (.int .i64 0) 1 8 Try.underlying52 hji hy0 hy1 hy2 rfl (by decide) _ _ _ rfl (hown.out.alloc _) ⟨wr.heap.size, 0, none⟩ 1 1 [.int .i64 k] rfl rfl (by intro j u hj; match j, hj with | 0, hj => simp at hj; subst hj; simp [Addr.add, go_sem]) (by intro u hu; simp at hu; subst hu; rfl) (by unfold maxLen; omega) (by omega) (by simp; omega) ?_)
                intro v' w1 hown' hgrow _
                have bV : Below WR.heap.size wr w1 := ((Below.refl _ _).alloc hsx _).trans (below_own (hown.out.alloc _) (Nat.le_refl _) (by simp; omega) hgrow)
                have HO' := hid (show w1.ownsRow WR.heap.size 3 1 v' (L ++ [(k : Int)]).length (intVals (L ++ [(k : Int)])) by
                  have e : intVals (L ++ [(k : Int)]) = intVals L ++ [.int .i64 k] := by simp [intVals]
                  rw [e]; simpa using hown')
                clear hown' hgrow
                go_wp2_with fail
                refine ⟨⟨k + 1, L ++ [(k : Int)], by omega, by go_num, by simp; omega, HO, HO', hbx.trans bV⟩, ?_⟩
                simp [intOf]; omega
              · have HO := hid (hL.out ▸ othersL_yes (hb ▸ hW).symm : othersL gs t now V m (k + 1) = L)
                rw [hb] at ck
                clear hb hW
                go_wp2_with fail
                refine ⟨⟨k + 1, L, by omega, by go_num, by omega, HO, hown, hbx⟩, ?_⟩
                simp [intOf]; omega
            · obtain rfl : k = gs.length := by omega
              obtain ⟨oa, oc, hv, hI⟩ := intsAt_of_own hown.out
              subst hv
              have HI := hid hI
              have hAg := hid (HIa.out m L 0 ⟨hM.out.many, hL.out.symm, rfl⟩)
              clear hown hI
              go_wp2_with fail
              refine bodyPost_ret (v := .tuple #[.int .i64 m, .slice oa L.length oc, .int .i64 0]) (by simp [results, Try.results34, go_sem]) rfl ⟨m, L, 0, oa, oc, rfl, HI.out, by omega, hAg.out, BWr.trans (hbx.mono BWr.size)⟩
  · have ha' : (ae != 0) = true := by simp [ha]
    have HA := hid ha; clear ha
    go_wp2_with fail
    refine bodyPost_ret (v := .tuple #[.int .i64 0, .slice none 0 0, .int .i64 ae]) (by simp [results, Try.results34, go_sem, *]) rfl ⟨0, [], ae, none, 0, rfl, .inl rfl, by simp, (HIs.out _ _ _).2 (by rw [if_pos HA.out]; exact ⟨rfl, rfl, rfl⟩), BW2⟩
end Go.Proofs.Ytblneiegekdnjaa
