/- Gate, part WH: whether all gates are shut; interlocks. -/
import Derived.Test.YtpgggffcpcjahaaWG
import Derived.Test.YtpgggffcpcjahaaWA
set_option linter.all false
namespace Go.Proofs.Ytpgggffcpcjahaa
open Go.RowKit

theorem gtL_one (g : Gt) (p : GtP) : (gtL g p).toArray.all (·.oneCell') = true :=
  have h : (gtL g p).all (·.oneCell') = true := rfl
  all_oneCell_toArray fun v hv => List.all_eq_true.1 h v hv
theorem shut_no {gs : List Gt} {ss : List St} {k : Nat} (hk : k < gs.length) (h : (ss.getD k default).pos ≠ (gs.getD k default).travel) : shutB gs ss = false := by
  cases hc : shutB gs ss
  · rfl
  · unfold shutB at hc
    have := List.all_eq_true.1 hc k (List.mem_range.2 hk)
    simp only [decide_eq_true_eq] at this
    exact absurd this h
theorem shut_yes {gs : List Gt} {ss : List St} (h : ∀ i, i < gs.length → (ss.getD i default).pos = (gs.getD i default).travel) : shutB gs ss = true := by
  unfold shutB
  rw [List.all_eq_true]
  intro i hi
  simpa using h i (List.mem_range.1 hi)
def ShutTo (gs : List Gt) (ss : List St) (k : Nat) : Prop := ∀ i, i < k → (ss.getD i default).pos = (gs.getD i default).travel

set_option maxRecDepth 100000 in
set_option maxHeartbeats 2000000 in
theorem areShut_any (ga sa : Option Addr) (gs : List Gt) (ss : List St) (gc sc : Nat) (ps : Nat → GtP) (w : World) (hg : RowsL (fun i g => gtL g (ps i)) 21 w ga gs) (hs : RowsL (fun _ s => stL s) 3 w sa ss) (hl : ss.length = gs.length) (hn8 : gs.length ≤ 140737488355328) :
    Calls Try.prog 104 #[.slice ga gs.length gc, .slice sa ss.length sc] w fun e w' => e = .returned (.bool (shutB gs ss)) ∧ Below w.heap.size w w' := by
  obtain ⟨B, hB⟩ : ∃ B, shutB gs ss = B := ⟨_, rfl⟩
  have HNo := hid (fun k (hk : k < gs.length) => shut_no (gs := gs) (ss := ss) hk)
  have HYes := hid (show ShutTo gs ss gs.length → shutB gs ss = true from fun h => shut_yes h)
  rw [hB] at HNo HYes
  rw [hB]
  clear hB
  have HG := hid hg; have HS := hid hs
  obtain ⟨n, hn⟩ : ∃ n, gs.length = n := ⟨_, rfl⟩
  have HN := hid hn
  rw [hn] at hn8 hl HNo HYes
  rw [hn, hl]
  have HL := hid hl
  clear hg hs hl hn
  go_enter Try.func104, Try.ntmps104
  go_wp2_with fail
  go_loopw [5, 6, 9] (fun _ _ j wr => ∃ k : Nat, k ≤ n ∧ j = .int .i64 k ∧ Hid (ShutTo gs ss k) ∧ Below w.heap.size w wr) (fun _ _ j _ => n - (intOf j).toNat)
  case atStart => exact ⟨0, Nat.zero_le _, rfl, hid (fun i hi => absurd hi (Nat.not_lt_zero _)), Below.refl _ _⟩
  case round =>
    obtain ⟨k, hk, rfl, hf, hbw⟩ := hrel
    by_cases hlt : k < n
    · obtain ⟨b, o, ha, hb, hat⟩ := HG.out.row (by rw [HN.out]; omega)
      obtain ⟨b2, o2, ha2, hb2, hat2⟩ := HS.out.row (by rw [HL.out]; omega)
      have hkg : k < gs.length := by rw [HN.out]; exact hlt
      have hks : k < ss.length := by rw [HL.out]; exact hlt
      have R0 := range_later (hat k hkg) hbw hb
      have c0 : wr.cell? ⟨b2, o2 + k * 3, none⟩ = some (.int .i64 ss[k].pos) := by simpa using (range_later (hat2 k hks) hbw hb2) 0 _ rfl
      have hNo := HNo.out k hlt
      have hE : Hid ((ss.getD k default).pos = (gs.getD k default).travel → ShutTo gs ss (k + 1)) := hid (fun h i hi => by
        by_cases e : i = k
        · subst e; exact h
        · exact hf.out i (by omega))
      rw [show ss.getD k default = ss[k] by simp [List.getD, hks], show gs.getD k default = gs[k] by simp [List.getD, hkg]] at hNo hE
      have HNk := hid hNo
      subst ha ha2
      generalize ss[k] = s at *
      generalize gs[k] = g at *
      have bl : b < wr.heap.size := Nat.lt_of_lt_of_le hb hbw.size
      have bl2 : b2 < wr.heap.size := Nat.lt_of_lt_of_le hb2 hbw.size
      have hkI : (k : Int) < (n : Int) := by omega
      have hk0 : (0 : Int) ≤ (k : Int) := Int.natCast_nonneg _
      clear hat hat2 hNo hkg hks hb hb2
      go_wp2_with (first | (refine wpList_load_mid rfl 33 _ rfl b (o + k * 21) rfl (gtL g (ps k)) _ R0 Try.underlying33 rfl (by kernel_rfl) ?_) | (apply wpList_store_row (hg := heap_alloc_new wr _) (h1 := gtL_one g (ps k)); exact rfl; exact rfl; exact rfl; exact rfl; kernel_rfl; exact rfl))
      have RF := range_setRow (W := wr.alloc (.cells #[.string ⟨#[]⟩, .int .i64 0, .int .i64 0, .slice none 0 0, .int .i64 0, .int .i64 0, .int .i64 0, .int .i64 0, .int .i64 0, .int .i64 0, .int .i64 0, .int .i64 0, .int .i64 0, .int .i64 0, .int .i64 0, .int .i64 0, .int .i64 0, .int .i64 0, .int .i64 0, .slice none 0 0, .int .i64 0] 33)) (cs := gtL g (ps k)) (heap_alloc_new wr _)
      have BF := below_setRow (cs := (gtL g (ps k)).toArray) ((Below.refl wr.heap.size wr).alloc (Nat.le_refl _) (.cells #[.string ⟨#[]⟩, .int .i64 0, .int .i64 0, .slice none 0 0, .int .i64 0, .int .i64 0, .int .i64 0, .int .i64 0, .int .i64 0, .int .i64 0, .int .i64 0, .int .i64 0, .int .i64 0, .int .i64 0, .int .i64 0, .int .i64 0, .int .i64 0, .int .i64 0, .int .i64 0, .slice none 0 0, .int .i64 0] 33)) (Nat.le_refl _)
      simp only [Act.put, List.setIfInBounds_toArray, List.set_cons_zero, List.set_cons_succ]
      generalize World.setRow _ _ _ = F at *
      have f2 : F.cell? ⟨wr.heap.size, 2, none⟩ = some (.int .i64 g.travel) := range_cell RF rfl
      have f0 : F.cell? ⟨b2, o2 + k * 3, none⟩ = some (.int .i64 s.pos) := (BF.cell (p := ⟨b2, o2 + k * 3, none⟩) bl2).trans c0
      have hBF : Below w.heap.size w F := hbw.trans (BF.mono hbw.size)
      clear RF BF R0 c0
      by_cases he : s.pos = g.travel
      · have q : (s.pos != g.travel) = false := by simp [he]
        have HE2 := hid he
        clear he
        go_quiet (fail)
        go_wp2_with fail
        go_roundw
        case rel => exact ⟨k + 1, by omega, by go_num, hid (hE.out HE2.out), below_drewN hBF _⟩
        case measure => simp [intOf]; omega
      · have q : (s.pos != g.travel) = true := by simp [he]
        have HE2 := hid he
        clear he
        go_quiet (fail)
        go_wp2_with fail
        go_ret
        exact ⟨by rw [HNk.out HE2.out]; rfl, below_drewN hBF _⟩
    · have hkl : k = n := by omega
      have HL2 := hid hkl
      have hkI : ¬ (k : Int) < (n : Int) := by omega
      clear hkl hlt
      go_wp2_with fail
      go_ret
      exact ⟨by rw [HYes.out (by have := hf.out; rwa [HL2.out] at this)]; rfl, hbw⟩

theorem quietIn {P : Program} {f : FuncId} {args : Array Value} {w : World} {n : Nat} {v : Value}
    (h : Calls P f args (w.drewN n) fun e w' => e = .returned v ∧ w.drewN n = w') : Calls P f args (w.drewN n) fun e w'' => e = .returned v ∧ ∃ m, w'' = w.drewN m :=
  h.mono fun _ _ ⟨he, hm⟩ => ⟨he, n, hm.symm⟩
def offR (r : Ru) (i : Nat) (pos : Int) : Bool := decide (r.gate = (i : Int)) && !inB pos r.lo r.hi
theorem lock_yes {rs : List Ru} {i k : Nat} {ss : List St} (hk : k < rs.length) (h : offB (rs.getD k default) i ss = true) : lockF rs i ss false = 132 := by
  unfold lockF
  rw [if_neg (by simp), if_pos (idxP_some.2 ⟨k, Nat.zero_le _, by omega, h⟩)]
theorem lock_no {rs : List Ru} {i : Nat} {ss : List St} (h : ∀ k, k < rs.length → offB (rs.getD k default) i ss = false) : lockF rs i ss false = 0 := by
  unfold lockF
  rw [if_neg (by simp), if_neg]
  intro hc
  obtain ⟨j, _, h2, h3⟩ := idxP_some.1 hc
  rw [h j (by omega)] at h3
  cases h3
def FreeTo (rs : List Ru) (i : Nat) (ss : List St) (k : Nat) : Prop := ∀ j, j < k → offB (rs.getD j default) i ss = false

set_option maxRecDepth 100000 in
set_option maxHeartbeats 4000000 in
theorem interlock_any (z : SetV) (i : Nat) (sa : Option Addr) (ss : List St) (sc : Nat) (ship : Bool) (w : World) (hr : RowsL (fun _ r => ruL r) 4 w z.ra z.rs) (hs : RowsL (fun _ s => stL s) 3 w sa ss) (hrl : z.rs.length ≤ 140737488355328) (hi8 : i ≤ 140737488355328)
    (hot : ∀ k, k < z.rs.length → 0 ≤ (z.rs.getD k default).other ∧ (z.rs.getD k default).other < ss.length) :
    Calls Try.prog 110 #[.agg #[.slice z.ga z.gs.length z.gc, .slice z.ra z.rs.length z.rc], .int .i64 i, .slice sa ss.length sc, .bool ship] w fun e w' => e = .returned (.int .i64 (lockF z.rs i ss ship)) ∧ Below w.heap.size w w' := by
  obtain ⟨ga, gs, gc, ps, ra, rs, rc⟩ := z
  dsimp only at hr hrl hot ⊢
  cases ship
  · obtain ⟨V, hV⟩ : ∃ V, lockF rs i ss false = V := ⟨_, rfl⟩
    have HYes := hid (fun k (hk : k < rs.length) => lock_yes (rs := rs) (i := i) (ss := ss) hk)
    have HNo := hid (show FreeTo rs i ss rs.length → lockF rs i ss false = 0 from fun h => lock_no h)
    rw [hV] at HYes HNo
    rw [hV]
    have HR := hid hr; have HS := hid hs; have HOt := hid hot
    obtain ⟨n, hn⟩ : ∃ n, rs.length = n := ⟨_, rfl⟩
    have HN := hid hn
    rw [hn] at hrl HNo HYes HOt
    rw [hn]
    clear hV hr hs hot hn
    have hB1 : Below w.heap.size w (w.alloc (.cells #[.slice ga gs.length gc, .slice ra n rc] 25)) := (Below.refl _ _).alloc (Nat.le_refl _) _
    go_enter Try.func110, Try.ntmps110
    go_wp2_with fail
    generalize World.alloc w _ = W1 at *
    go_loopw [10, 15] (fun _ j wr => ∃ k : Nat, k ≤ n ∧ j = .int .i64 k ∧ Hid (FreeTo rs i ss k) ∧ Below w.heap.size w wr) (fun _ j _ => n - (intOf j).toNat)
    case atStart => exact ⟨0, Nat.zero_le _, rfl, hid (fun i hi => absurd hi (Nat.not_lt_zero _)), hB1⟩
    case round =>
      obtain ⟨k, hk, rfl, hf, hbw⟩ := hrel
      by_cases hlt : k < n
      · obtain ⟨b, o, ha, hb, hat⟩ := HR.out.row (by rw [HN.out]; omega)
        have hkr : k < rs.length := by rw [HN.out]; exact hlt
        have hot := HOt.out k hlt
        obtain ⟨b2, o2, ha2, hb2, hat2⟩ := HS.out.row (by omega)
        have R0 := range_later (hat k hkr) hbw hb
        have hYes := HYes.out k hlt
        have hE : Hid (offB (rs.getD k default) i ss = false → FreeTo rs i ss (k + 1)) := hid (fun h j hj => by
          by_cases e : j = k
          · subst e; exact h
          · exact hf.out j (by omega))
        rw [show rs.getD k default = rs[k] by simp [List.getD, hkr]] at hYes hE hot
        generalize rs[k] = r at *
        obtain ⟨m, hm⟩ : ∃ m : Nat, r.other = (m : Int) := ⟨r.other.toNat, by omega⟩
        have hms : m < ss.length := by omega
        have S0 := range_later (hat2 m hms) hbw hb2
        have hoff : Hid (offB r i ss = (decide (r.gate = (i : Int)) && !inB ss[m].pos r.lo r.hi)) := hid (by
          unfold offB; rw [hm]; simp [List.getD, hms])
        have k0 : wr.cell? ⟨b, o + k * 4, none⟩ = some (.int .i64 r.gate) := by simpa using R0 0 _ (show (ruL r)[0]? = some (.int .i64 r.gate) from rfl)
        have k1 : wr.cell? ⟨b, o + k * 4 + 1, none⟩ = some (.int .i64 r.other) := R0 1 _ rfl
        have k2 : wr.cell? ⟨b, o + k * 4 + 2, none⟩ = some (.int .i64 r.lo) := R0 2 _ rfl
        have k3 : wr.cell? ⟨b, o + k * 4 + 3, none⟩ = some (.int .i64 r.hi) := R0 3 _ rfl
        have s0 : wr.cell? ⟨b2, o2 + m * 3, none⟩ = some (.int .i64 ss[m].pos) := by simpa using S0 0 _ (show (stL ss[m])[0]? = some (.int .i64 ss[m].pos) from rfl)
        rw [hm] at k1
        generalize ss[m].pos = sp at *
        have HYk := hid hYes
        subst ha ha2
        have bl : b < wr.heap.size := Nat.lt_of_lt_of_le hb hbw.size
        have bl2 : b2 < wr.heap.size := Nat.lt_of_lt_of_le hb2 hbw.size
        have n2 : b2 ≠ wr.heap.size := by omega
        have hkI : (k : Int) < (n : Int) := by omega
        have hk0 : (0 : Int) ≤ (k : Int) := Int.natCast_nonneg _
        have hmI : (m : Int) < (ss.length : Int) := by omega
        have hm0 : (0 : Int) ≤ (m : Int) := Int.natCast_nonneg _
        clear hat hat2 hYes hkr hb hb2 R0 S0 hot hm
        go_wp2_with fail
        by_cases he : r.gate = (i : Int)
        · have q : (r.gate == (i : Int)) = true := by simp [he]
          have q2 : decide (r.gate = (i : Int)) = true := by simp [he]
          obtain ⟨c, hc⟩ : ∃ c, inB sp r.lo r.hi = c := ⟨_, rfl⟩
          rw [q2, hc] at hoff
          have HC := hid hc
          clear he q2 hc
          cases c
          · go_quiet ((go_at_call 59; exact quietIn (in_val _ _ _ _ _ HC.out)))
            go_wp2_with fail
            go_ret
            exact ⟨by rw [HYk.out (by rw [hoff.out]; rfl)]; rfl, below_drewN (hbw.alloc hbw.size _) _⟩
          · go_quiet ((go_at_call 59; exact quietIn (in_val _ _ _ _ _ HC.out)))
            go_wp2_with fail
            go_roundw
            case rel => exact ⟨k + 1, by omega, by go_num, hid (hE.out (by rw [hoff.out]; rfl)), below_drewN (hbw.alloc hbw.size _) _⟩
            case measure => simp [intOf]; omega
        · have q : (r.gate == (i : Int)) = false := by simp [he]
          have q2 : decide (r.gate = (i : Int)) = false := by simp [he]
          rw [q2] at hoff
          clear he
          go_quiet (fail)
          go_wp2_with fail
          go_roundw
          case rel => exact ⟨k + 1, by omega, by go_num, hid (hE.out (by rw [hoff.out]; rfl)), below_drewN (hbw.alloc hbw.size _) _⟩
          case measure => simp [intOf]; omega
      · have hkl : k = n := by omega
        have HL2 := hid hkl
        have hkI : ¬ (k : Int) < (n : Int) := by omega
        clear hkl hlt
        go_wp2_with fail
        go_ret
        exact ⟨by rw [HNo.out (by have := hf.out; rwa [HL2.out] at this)]; rfl, hbw⟩
  · have HE := hid (show lockF rs i ss true = 131 by unfold lockF; rw [if_pos rfl])
    clear hr hs hot
    go_enter Try.func110, Try.ntmps110
    go_wp2_with fail
    go_ret
    exact ⟨ret_iE (by rw [HE.out]), (Below.refl _ _).alloc (Nat.le_refl _) _⟩
end Go.Proofs.Ytpgggffcpcjahaa
