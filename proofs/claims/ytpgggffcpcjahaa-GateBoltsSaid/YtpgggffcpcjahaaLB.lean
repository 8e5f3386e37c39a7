/- Gate, part LB: the walk of GateBolts. -/
import Derived.Test.YtpgggffcpcjahaaLW
import Derived.Test.YtpgggffcpcjahaaYG
import Derived.Test.YtpgggffcpcjahaaLF
set_option linter.all false
namespace Go.Proofs.Ytpgggffcpcjahaa
open Go.RowKit

theorem boltEE_ok {g : Gt} {s : St} {on : Bool} {rs : List Int} (h : boltEE g s on rs = 0) : gtE g = 0 ∧ stE g s = 0 ∧ boltE g s on rs = 0 := by
  unfold boltEE at h
  rw [firstAt_all] at h
  simp only [List.mem_cons, List.not_mem_nil, or_false, forall_eq_or_imp, forall_eq] at h
  exact h
theorem bolt_good {g : Gt} {s : St} {rs : List Int} (h : (boltP g s true rs).2 = 0) : gtE g = 0 ∧ stE g s = 0 ∧ s.bolted = false ∧ rs.length = g.ss.length ∧ boltP g s true rs = (⟨s.pos, s.charge, true⟩, 0) ∧ (enB g rs s.pos = true → s.pos ≤ g.slack ∨ g.travel - g.slack ≤ s.pos) := by
  unfold boltP at h ⊢
  by_cases hE : boltEE g s true rs = 0
  · obtain ⟨h0, h1, h2⟩ := boltEE_ok hE
    rw [if_neg (by simp [hE])]
    have hs := stGood h1
    unfold boltE at h2
    rw [if_neg (by simp), if_neg (by simp)] at h2
    by_cases hb : s.bolted = true
    · rw [if_pos hb] at h2; cases h2
    · rw [if_neg hb] at h2
      have hsu : (sureP g rs).2 = 0 ∧ (sureP g rs).1 ≠ 0 := by
        by_cases hc : (sureP g rs).2 = 0 ∧ (sureP g rs).1 = 0
        · rw [if_pos hc] at h2; cases h2
        · rw [if_neg hc] at h2; exact ⟨h2, fun h3 => hc ⟨h2, h3⟩⟩
      obtain ⟨hs2, hs1⟩ := hsu
      unfold sureP at hs1 hs2
      have hw2 : (whereP g rs).2 = 0 := by
        by_cases hw : (whereP g rs).2 = 0
        · exact hw
        · rw [if_pos hw] at hs2; exact hs2
      rw [if_neg (by simp [hw2])] at hs1
      refine ⟨h0, h1, by simpa using hb, ?_, rfl, fun he => ?_⟩
      · rcases where_cases g rs with ⟨k1, k2⟩ | ⟨k1, k2, k3⟩ | ⟨k1, k2, k3⟩
        · exact absurd h0 k1
        · rw [k3] at hw2; cases hw2
        · exact k2
      · rcases where_cases g rs with ⟨k1, k2⟩ | ⟨k1, k2, k3⟩ | ⟨k1, k2, ⟨k3, k4⟩ | ⟨k3, k4, k5, k6⟩⟩
        · exact absurd h0 k1
        · rw [k3] at hw2; cases hw2
        · rw [k3] at hw2; cases hw2
        · obtain ⟨k7, k8⟩ := k6 s.pos hs.pos.1 hs.pos.2 he
          by_cases c1 : (whereP g rs).1.2 ≤ g.slack
          · left; omega
          · rw [if_neg c1] at hs1
            by_cases c2 : g.travel - g.slack ≤ (whereP g rs).1.1
            · right; omega
            · rw [if_neg c2] at hs1; exact absurd rfl hs1
  · rw [if_pos hE] at h; exact absurd h hE
theorem bolt_off {g : Gt} {s : St} (h0 : gtE g = 0) (h1 : stE g s = 0) : boltP g ⟨s.pos, s.charge, true⟩ false [] = (⟨s.pos, s.charge, false⟩, 0) := by
  have he : boltEE g ⟨s.pos, s.charge, true⟩ false [] = 0 := by
    unfold boltEE
    rw [firstAt_all]
    simp only [List.mem_cons, List.not_mem_nil, or_false, forall_eq_or_imp, forall_eq]
    refine ⟨h0, h1, ?_⟩
    unfold boltE
    rw [if_neg (by simp), if_pos rfl]
  unfold boltP
  rw [if_neg (by simp [he])]
set_option maxRecDepth 100000 in
set_option maxHeartbeats 8000000 in
theorem lawBolts_any (g : Gt) (p : GtP) (s : St) (ra : Option Addr) (rs : List Int) (mc : Nat) (ta : Option Addr) (ts : List Sp) (tc n : Nat) (w : World) (hn : ts.length = n) (hn8 : n ≤ 140737488355328) (hm8 : rs.length ≤ 140737488355328) (hok : GtOk w p g) (hra : IntsAt w ra rs) (hts : RowsL (fun _ s => spL s) 4 w ta ts) :
    Calls Try.prog 10 #[.agg (gtL g p).toArray, .agg #[.int .i64 s.pos, .int .i64 s.charge, .bool s.bolted, .slice ra rs.length mc], .slice ta n tc] w fun e w' => e = .returned (.bool true) ∧ Below w.heap.size w w' := by
  have H0 := hid (GxW.start w g p [.int .i64 s.pos, .int .i64 s.charge, .bool s.bolted, .slice ra rs.length mc] 75)
  have HBt := hid (fun W (hW : GtOk W p g) (hr : IntsAt W ra rs) => bolt_any g p s true ra rs mc rs.length W rfl hm8 hW hr)
  have HEn := hid (fun (hg : GtGood g) (hl : rs.length = g.ss.length) (y : Int) (hy : 0 ≤ y ∧ y ≤ g.travel) W (h1 : SensAt W p.sa g.ss) (h2 : IntsAt W ra rs) => enough_any g p ra rs mc y W hg h1 h2 hl hy)
  have HRn := hid (fun (u : St) W (hW : GtOk W p g) (h : RowsL (fun _ s => spL s) 4 W ta ts) => run_any g p u ta ts tc n W hn hn8 hW h)
  have HGd := hid (fun h => bolt_good (g := g) (s := s) (rs := rs) h)
  have HOk := hid hok; have HRa := hid hra; have HTs := hid hts; have HN := hid hn; have HN8 := hid hn8
  have R1 := H0.out.rows
  have x0 := range_cell H0.out.cs (show [_, _, _, _][0]? = some (.int .i64 s.pos) from rfl)
  have x1 := range_cell H0.out.cs (show [_, _, _, _][1]? = some (.int .i64 s.charge) from rfl)
  have x2 := range_cell H0.out.cs (show [_, _, _, _][2]? = some (.bool s.bolted) from rfl)
  have x3 := range_cell H0.out.cs (show [_, _, _, _][3]? = some (.slice ra rs.length mc) from rfl)
  clear hok hra hts hn hn8 hm8
  generalize boltP g s true rs = q at *
  obtain ⟨u, e⟩ := q
  dsimp only at HBt HGd
  go_enter Try.func10, Try.ntmps10
  go_wp2_with (refine wpList_load_mid rfl 33 _ rfl _ 0 rfl (gtL g p) _ (R1) Try.underlying33 rfl (by kernel_rfl) ?_)
  refine (HBt.out _ (HOk.out.later H0.out.below (Nat.le_refl _)) (HRa.out.later H0.out.below (Nat.le_refl _))).mono ?_
  rintro e' w1 ⟨rfl, hb⟩
  have H1 := hid (H0.out.later hb)
  have l1b := H1.out.lt
  have l1a : w.heap.size < w1.heap.size := by omega
  clear x0 x1 x2 x3 R1 H0 hb
  by_cases he : e = 0
  · subst he
    obtain ⟨g0, g1, g2, g3, g4, g5⟩ := HGd.out rfl
    injection g4 with g4 _
    subst g4
    have hg := gtGood g0
    have hs := stGood g1
    have b1 := hg.travel; have b2 := hg.slack; have b3 := hs.pos
    have hsl : g.slack ≤ g.travel := by have := Int.tdiv_le_self (a := g.travel - 1) 2 (by omega); omega
    have v1 : IntKind.i64.wrap (g.travel - g.slack) = g.travel - g.slack := IntWalk.i64_in _ (by omega)
    have HG := hid hg; have HGE := hid g0; have HSE := hid g1; have HL := hid g3; have HSb := hid g2
    have HOff := hid (bolt_off (g := g) (s := s) g0 g1)
    have HEx := hid (fun W h1 h2 => HEn.out hg g3 s.pos b3 W h1 h2)
    have H5 := hid g5
    clear g0 g1 g2 g3 g5 hg hs HGd HEn HBt
    obtain ⟨v, hv⟩ : ∃ v, enB g rs s.pos = v := ⟨_, rfl⟩
    rw [hv] at HEx
    have HV := hid hv
    clear hv
    have x0 := range_cell H1.out.cs (show [_, _, _, _][0]? = some (.int .i64 s.pos) from rfl)
    have x1 := range_cell H1.out.cs (show [_, _, _, _][1]? = some (.int .i64 s.charge) from rfl)
    have x2 := range_cell H1.out.cs (show [_, _, _, _][2]? = some (.bool s.bolted) from rfl)
    have x3 := range_cell H1.out.cs (show [_, _, _, _][3]? = some (.slice ra rs.length mc) from rfl)
    have R2 := (H1.out.later ((Below.refl _ _).alloc (Nat.le_refl _) (.cells #[.int .i64 s.pos, .int .i64 s.charge, .bool true] 44))).rows
    go_wp2_with (go_big_want; refine wp_load_mid 33 _ rfl _ 0 rfl (gtL g p) _ (R2) Try.underlying33 rfl (by kernel_rfl) ?_)
    refine (HEx.out _ (HOk.out.later (H1.out.later ((Below.refl _ _).alloc (Nat.le_refl _) _)).below (Nat.le_refl _)).ss (HRa.out.later (H1.out.later ((Below.refl _ _).alloc (Nat.le_refl _) _)).below (Nat.le_refl _))).mono ?_
    rintro e' w2 ⟨rfl, hb⟩
    obtain ⟨ru, l2, b12⟩ := one_box (cs := [.int .i64 s.pos, .int .i64 s.charge, .bool true]) hb
    have H2 := hid (H1.out.later b12)
    clear x0 x1 x2 x3 R2 H1 hb b12 l1a l1b HEx
    cases v
    · clear ru
      go_wp2_with fail
      refine (awake_any _).mono ?_
      rintro e w9 ⟨rfl, hb9⟩
      go_wp2_with fail
      go_ret
      exact ⟨rfl, bthen H2.out.below hb9⟩
    · have u0 := range_cell ru (show [_, _, _][0]? = some (.int .i64 s.pos) from rfl)
      have u1 := range_cell ru (show [_, _, _][1]? = some (.int .i64 s.charge) from rfl)
      have u2 := range_cell ru (show [_, _, _][2]? = some (.bool true) from rfl)
      have x0 := range_cell H2.out.cs (show [_, _, _, _][0]? = some (.int .i64 s.pos) from rfl)
      have x1 := range_cell H2.out.cs (show [_, _, _, _][1]? = some (.int .i64 s.charge) from rfl)
      have x2 := range_cell H2.out.cs (show [_, _, _, _][2]? = some (.bool s.bolted) from rfl)
      have x3 := range_cell H2.out.cs (show [_, _, _, _][3]? = some (.slice ra rs.length mc) from rfl)
      have k2 := range_cell H2.out.rows (show (gtL g p)[2]? = some (.int .i64 g.travel) from rfl)
      have k18 := range_cell H2.out.rows (show (gtL g p)[18]? = some (.int .i64 g.slack) from rfl)
      have R2 := H2.out.rows
      have z1 : (s.pos != s.pos) = false := by simp
      have z2 : (s.charge != s.charge) = false := by simp
      obtain ⟨c, hc1, hc2⟩ : ∃ c : Bool, decide (g.slack < s.pos) = c ∧ (c = true → decide (s.pos < g.travel - g.slack) = false) := by
        refine ⟨_, rfl, fun h => ?_⟩
        have := H5.out HV.out
        simp at h ⊢
        omega
      cases c
      · go_upto_region 6 with fail
        go_wp2_with (first | (refine wpList_load_mid rfl 33 _ rfl _ 0 rfl (gtL g p) _ (R2) Try.underlying33 rfl (by kernel_rfl) ?_))
        refine (HRn.out ⟨s.pos, s.charge, true⟩ _ (HOk.out.later H2.out.below (Nat.le_refl _)) (HTs.out.later H2.out.below (Nat.le_refl _))).mono ?_
        rintro e' w3 ⟨ma, mcp, rfl, hmr, hb⟩
        have H3 := hid (H2.out.later hb)
        have ru3 := range_later ru hb l2
        have l3 := lthen l2 hb
        have HMr := hid hmr
        clear u0 u1 u2 x0 x1 x2 x3 k2 k18 R2 H2 hb hmr ru
        obtain ⟨re, hre⟩ : ∃ re, runE g ⟨s.pos, s.charge, true⟩ ts = re := ⟨_, rfl⟩
        have HRe := hid hre
        rw [hre]
        clear hre
        by_cases hr : re = 0
        · have q2 : (re != 0) = false := by simp [hr]
          have HRl := hid (show runL g ⟨s.pos, s.charge, true⟩ ts = scanF g ⟨s.pos, s.charge, true⟩ ts by unfold runL; rw [if_pos (HRe.out.trans hr)])
          rw [HRl.out] at HMr ⊢
          obtain ⟨L, hL⟩ : ∃ L, (scanF g ⟨s.pos, s.charge, true⟩ ts).length = L := ⟨_, rfl⟩
          have HLn := hid hL
          have hLn : L ≤ 140737488355328 := by rw [← hL, scan_len, HN.out]; exact HN8.out
          have HLl := hid hLn
          rw [hL]
          clear hr hL hLn HRl
          have u0 := range_cell ru3 (show [_, _, _][0]? = some (.int .i64 s.pos) from rfl)
          have lu := l3
          go_wp2_with fail
          go_loopw [10] (fun jv wr => ∃ m : Nat, m ≤ L ∧ jv = .int .i64 m ∧ Hid (Below w3.heap.size w3 wr)) (fun jv _ => L - (intOf jv).toNat)
          case atStart => exact ⟨0, Nat.zero_le _, rfl, hid (Below.refl _ _)⟩
          case round =>
            obtain ⟨m, hm, rfl, hbw⟩ := hrel
            by_cases hlt2 : m < L
            · have hml : m < (scanF g ⟨s.pos, s.charge, true⟩ ts).length := by rw [HLn.out]; exact hlt2
              have hmt : m < ts.length := by rw [scan_len] at hml; exact hml
              obtain ⟨b, o2, rfl, hb, hat⟩ := HMr.out.row (by omega)
              have Rt := range_later (hat m hml) hbw.out hb
              have hsb := scan_bolted g ts (s := ⟨s.pos, s.charge, true⟩) rfl hmt
              rw [show (scanF g ⟨s.pos, s.charge, true⟩ ts).getD m default = (scanF g ⟨s.pos, s.charge, true⟩ ts)[m] by simp [List.getD, hml]] at hsb
              generalize (scanF g ⟨s.pos, s.charge, true⟩ ts)[m] = st at *
              have y0 : wr.cell? ⟨b, o2 + m * 3, none⟩ = some (.int .i64 s.pos) := by
                have := Rt 0 _ (show (stL st)[0]? = some (.int .i64 st.pos) from rfl)
                rw [hsb.2] at this; simpa using this
              have y2 : wr.cell? ⟨b, o2 + m * 3 + 2, none⟩ = some (.bool true) := by
                have := Rt 2 _ (show (stL st)[2]? = some (.bool st.bolted) from rfl)
                rw [hsb.1] at this; exact this
              have u0' := (hbw.out.cell (p := ⟨w1.heap.size, 0, none⟩) lu).trans u0
              have hI : (m : Int) < (L : Int) := by omega
              have hI0 : (0 : Int) ≤ (m : Int) := Int.natCast_nonneg _
              have z1' : (s.pos != s.pos) = false := by simp
              have v5 : IntKind.i64.wrap ((m : Int) + 1) = ((m + 1 : Nat) : Int) := by rw [IntWalk.i64_in _ (by have := HLl.out; omega)]; simp
              clear Rt hat hsb u0
              go_wp2_with fail
              go_quiet (fail)
              have HB := hid (below_drewN hbw.out nq)
              clear hbw y0 y2 u0'
              go_wp2_with fail
              refine ⟨⟨m + 1, by omega, by go_num, HB⟩, by simp [intOf]; omega⟩
            · obtain rfl : m = L := by omega
              have H4 := hid (H3.out.later hbw.out)
              have ru4 := range_later ru3 hbw.out lu
              have l4 := lthen lu hbw.out
              clear u0 ru3 H3 hbw
              have u0 := range_cell ru4 (show [_, _, _][0]? = some (.int .i64 s.pos) from rfl)
              have u1 := range_cell ru4 (show [_, _, _][1]? = some (.int .i64 s.charge) from rfl)
              have u2 := range_cell ru4 (show [_, _, _][2]? = some (.bool true) from rfl)
              have R4 := H4.out.rows
              have HBo := hid (fun W (hW : GtOk W p g) => bolt_any g p ⟨s.pos, s.charge, true⟩ false none [] 0 0 W rfl (Nat.zero_le _) hW (.inl rfl))
              rw [HOff.out] at HBo
              dsimp only at HBo
              go_wp2_with (refine wpList_load_mid rfl 33 _ rfl _ 0 rfl (gtL g p) _ (R4) Try.underlying33 rfl (by kernel_rfl) ?_)
              refine (HBo.out _ (HOk.out.later H4.out.below (Nat.le_refl _))).mono ?_
              rintro e' w5 ⟨rfl, hb⟩
              have H5' := hid (H4.out.later hb)
              have l5b := H5'.out.lt
              clear u0 u1 u2 R4 hb ru4
              have x0 := range_cell H5'.out.cs (show [_, _, _, _][0]? = some (.int .i64 s.pos) from rfl)
              have x1 := range_cell H5'.out.cs (show [_, _, _, _][1]? = some (.int .i64 s.charge) from rfl)
              have x2 := range_cell H5'.out.cs (show [_, _, _, _][2]? = some (.bool s.bolted) from rfl)
              have x3 := range_cell H5'.out.cs (show [_, _, _, _][3]? = some (.slice ra rs.length mc) from rfl)
              have x2' : w5.cell? ⟨w.heap.size + 1, 2, none⟩ = some (.bool false) := by rw [x2, HSb.out]
              clear x2
              go_wp2_with fail
              refine (awake_any _).mono ?_
              rintro e w9 ⟨rfl, hb9⟩
              go_wp2_with fail
              go_ret
              exact ⟨rfl, bthen (bthen H5'.out.below ((Below.refl _ _).alloc (Nat.le_refl _) _)) hb9⟩
        · have q2 : (re != 0) = true := by simp [hr]
          clear hr ru3
          go_wp2_with fail
          refine (awake_any _).mono ?_
          rintro e w9 ⟨rfl, hb9⟩
          go_wp2_with fail
          go_ret
          exact ⟨rfl, bthen H3.out.below hb9⟩
      · have d3 := hc2 rfl
        go_upto_region 6 with fail
        go_wp2_with (first | (refine wpList_load_mid rfl 33 _ rfl _ 0 rfl (gtL g p) _ (R2) Try.underlying33 rfl (by kernel_rfl) ?_))
        refine (HRn.out ⟨s.pos, s.charge, true⟩ _ (HOk.out.later H2.out.below (Nat.le_refl _)) (HTs.out.later H2.out.below (Nat.le_refl _))).mono ?_
        rintro e' w3 ⟨ma, mcp, rfl, hmr, hb⟩
        have H3 := hid (H2.out.later hb)
        have ru3 := range_later ru hb l2
        have l3 := lthen l2 hb
        have HMr := hid hmr
        clear u0 u1 u2 x0 x1 x2 x3 k2 k18 R2 H2 hb hmr ru
        obtain ⟨re, hre⟩ : ∃ re, runE g ⟨s.pos, s.charge, true⟩ ts = re := ⟨_, rfl⟩
        have HRe := hid hre
        rw [hre]
        clear hre
        by_cases hr : re = 0
        · have q2 : (re != 0) = false := by simp [hr]
          have HRl := hid (show runL g ⟨s.pos, s.charge, true⟩ ts = scanF g ⟨s.pos, s.charge, true⟩ ts by unfold runL; rw [if_pos (HRe.out.trans hr)])
          rw [HRl.out] at HMr ⊢
          obtain ⟨L, hL⟩ : ∃ L, (scanF g ⟨s.pos, s.charge, true⟩ ts).length = L := ⟨_, rfl⟩
          have HLn := hid hL
          have hLn : L ≤ 140737488355328 := by rw [← hL, scan_len, HN.out]; exact HN8.out
          have HLl := hid hLn
          rw [hL]
          clear hr hL hLn HRl
          have u0 := range_cell ru3 (show [_, _, _][0]? = some (.int .i64 s.pos) from rfl)
          have lu := l3
          go_wp2_with fail
          go_loopw [10] (fun jv wr => ∃ m : Nat, m ≤ L ∧ jv = .int .i64 m ∧ Hid (Below w3.heap.size w3 wr)) (fun jv _ => L - (intOf jv).toNat)
          case atStart => exact ⟨0, Nat.zero_le _, rfl, hid (Below.refl _ _)⟩
          case round =>
            obtain ⟨m, hm, rfl, hbw⟩ := hrel
            by_cases hlt2 : m < L
            · have hml : m < (scanF g ⟨s.pos, s.charge, true⟩ ts).length := by rw [HLn.out]; exact hlt2
              have hmt : m < ts.length := by rw [scan_len] at hml; exact hml
              obtain ⟨b, o2, rfl, hb, hat⟩ := HMr.out.row (by omega)
              have Rt := range_later (hat m hml) hbw.out hb
              have hsb := scan_bolted g ts (s := ⟨s.pos, s.charge, true⟩) rfl hmt
              rw [show (scanF g ⟨s.pos, s.charge, true⟩ ts).getD m default = (scanF g ⟨s.pos, s.charge, true⟩ ts)[m] by simp [List.getD, hml]] at hsb
              generalize (scanF g ⟨s.pos, s.charge, true⟩ ts)[m] = st at *
              have y0 : wr.cell? ⟨b, o2 + m * 3, none⟩ = some (.int .i64 s.pos) := by
                have := Rt 0 _ (show (stL st)[0]? = some (.int .i64 st.pos) from rfl)
                rw [hsb.2] at this; simpa using this
              have y2 : wr.cell? ⟨b, o2 + m * 3 + 2, none⟩ = some (.bool true) := by
                have := Rt 2 _ (show (stL st)[2]? = some (.bool st.bolted) from rfl)
                rw [hsb.1] at this; exact this
              have u0' := (hbw.out.cell (p := ⟨w1.heap.size, 0, none⟩) lu).trans u0
              have hI : (m : Int) < (L : Int) := by omega
              have hI0 : (0 : Int) ≤ (m : Int) := Int.natCast_nonneg _
              have z1' : (s.pos != s.pos) = false := by simp
              have v5 : IntKind.i64.wrap ((m : Int) + 1) = ((m + 1 : Nat) : Int) := by rw [IntWalk.i64_in _ (by have := HLl.out; omega)]; simp
              clear Rt hat hsb u0
              go_wp2_with fail
              go_quiet (fail)
              have HB := hid (below_drewN hbw.out nq)
              clear hbw y0 y2 u0'
              go_wp2_with fail
              refine ⟨⟨m + 1, by omega, by go_num, HB⟩, by simp [intOf]; omega⟩
            · obtain rfl : m = L := by omega
              have H4 := hid (H3.out.later hbw.out)
              have ru4 := range_later ru3 hbw.out lu
              have l4 := lthen lu hbw.out
              clear u0 ru3 H3 hbw
              have u0 := range_cell ru4 (show [_, _, _][0]? = some (.int .i64 s.pos) from rfl)
              have u1 := range_cell ru4 (show [_, _, _][1]? = some (.int .i64 s.charge) from rfl)
              have u2 := range_cell ru4 (show [_, _, _][2]? = some (.bool true) from rfl)
              have R4 := H4.out.rows
              have HBo := hid (fun W (hW : GtOk W p g) => bolt_any g p ⟨s.pos, s.charge, true⟩ false none [] 0 0 W rfl (Nat.zero_le _) hW (.inl rfl))
              rw [HOff.out] at HBo
              dsimp only at HBo
              go_wp2_with (refine wpList_load_mid rfl 33 _ rfl _ 0 rfl (gtL g p) _ (R4) Try.underlying33 rfl (by kernel_rfl) ?_)
              refine (HBo.out _ (HOk.out.later H4.out.below (Nat.le_refl _))).mono ?_
              rintro e' w5 ⟨rfl, hb⟩
              have H5' := hid (H4.out.later hb)
              have l5b := H5'.out.lt
              clear u0 u1 u2 R4 hb ru4
              have x0 := range_cell H5'.out.cs (show [_, _, _, _][0]? = some (.int .i64 s.pos) from rfl)
              have x1 := range_cell H5'.out.cs (show [_, _, _, _][1]? = some (.int .i64 s.charge) from rfl)
              have x2 := range_cell H5'.out.cs (show [_, _, _, _][2]? = some (.bool s.bolted) from rfl)
              have x3 := range_cell H5'.out.cs (show [_, _, _, _][3]? = some (.slice ra rs.length mc) from rfl)
              have x2' : w5.cell? ⟨w.heap.size + 1, 2, none⟩ = some (.bool false) := by rw [x2, HSb.out]
              clear x2
              go_wp2_with fail
              refine (awake_any _).mono ?_
              rintro e w9 ⟨rfl, hb9⟩
              go_wp2_with fail
              go_ret
              exact ⟨rfl, bthen (bthen H5'.out.below ((Below.refl _ _).alloc (Nat.le_refl _) _)) hb9⟩
        · have q2 : (re != 0) = true := by simp [hr]
          clear hr ru3
          go_wp2_with fail
          refine (awake_any _).mono ?_
          rintro e w9 ⟨rfl, hb9⟩
          go_wp2_with fail
          go_ret
          exact ⟨rfl, bthen H3.out.below hb9⟩
  · have q1 : (e != 0) = true := by simp [he]
    clear he HGd
    go_wp2_with fail
    refine (awake_any _).mono ?_
    rintro e w9 ⟨rfl, hb9⟩
    go_wp2_with fail
    go_ret
    exact ⟨rfl, bthen (bthen H1.out.below ((Below.refl _ _).alloc (Nat.le_refl _) _)) hb9⟩
end Go.Proofs.Ytpgggffcpcjahaa
