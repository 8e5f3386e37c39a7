/- Gate, part WH: whether all gates are shut; interlocks. -/
import Derived.Test.YtdoklolinbmhpaaGreatWG
import Derived.Test.YtdoklolinbmhpaaGreatWA
import Derived.Test.YtdoklolinbmhpaaGreatVY
import Derived.OwnWalk
set_option linter.all false
namespace Go.Proofs.YtdoklolinbmhpaaGreat
open Go.RowKit

theorem gtL_one (g : Gt) (p : GtP) : (gtL g p).toArray.all (·.oneCell') = true :=
  have h : (gtL g p).all (·.oneCell') = true := rfl
  all_oneCell_toArray fun v hv => List.all_eq_true.1 h v hv
theorem shut_no {gs : List Gt} {ss : List St} {k : Nat} (hk : k < gs.length) (h : (ss.getD k default).pos ≠ (gs.getD k default).travel) : shutB gs ss = false := by
  cases hc : shutB gs ss
  · rfl
  · unfold shutB at hc
    have := List.all_eq_true.1 hc k (List.mem_range.2 hk)
    simp only [decide_eq_true_eq] at this
    exact absurd this h
theorem shut_yes {gs : List Gt} {ss : List St} (h : ∀ i, i < gs.length → (ss.getD i default).pos = (gs.getD i default).travel) : shutB gs ss = true := by
  unfold shutB
  rw [List.all_eq_true]
  intro i hi
  simpa using h i (List.mem_range.1 hi)
def ShutTo (gs : List Gt) (ss : List St) (k : Nat) : Prop := ∀ i, i < k → (ss.getD i default).pos = (gs.getD i default).travel

set_option maxRecDepth 100000 in
set_option maxHeartbeats 2000000 in
theorem areShut_any (ga sa : Option Addr) (gs : List Gt) (ss : List St) (gc sc : Nat) (ps : Nat → GtP) (w : World) (hg : RowsL (fun i g => gtL g (ps i)) 21 w ga gs) (hs : RowsL (fun _ s => stL s) 3 w sa ss) (hl : ss.length = gs.length) (hn8 : gs.length ≤ 140737488355328) :
    Calls Tryz.prog 79 #[.slice ga gs.length gc, .slice sa ss.length sc] w fun e w' => e = .returned (.bool (shutB gs ss)) ∧ Below w.heap.size w w' := by
  obtain ⟨B, hB⟩ : ∃ B, shutB gs ss = B := ⟨_, rfl⟩
  have HNo := hid (fun k (hk : k < gs.length) => shut_no (gs := gs) (ss := ss) hk)
  have HYes := hid (show ShutTo gs ss gs.length → shutB gs ss = true from fun h => shut_yes h)
  rw [hB] at HNo HYes
  rw [hB]
  clear hB
  have HG := hid hg; have HS := hid hs
  obtain ⟨n, hn⟩ : ∃ n, gs.length = n := ⟨_, rfl⟩
  have HN := hid hn
  rw [hn] at hn8 hl HNo HYes
  rw [hn, hl]
  have HL := hid hl
  clear hg hs hl hn
  go_enter Tryz.func79, Tryz.ntmps79
  go_wp2_with fail
  go_loopw [5, 6, 9] (fun _ _ j wr => ∃ k : Nat, k ≤ n ∧ j = .int .i64 k ∧ Hid (ShutTo gs ss k) ∧ Below w.heap.size w wr) (fun _ _ j _ => n - (intOf j).toNat)
  case atStart => exact ⟨0, Nat.zero_le _, rfl, hid (fun i hi => absurd hi (Nat.not_lt_zero _)), Below.refl _ _⟩
  case round =>
    obtain ⟨k, hk, rfl, hf, hbw⟩ := hrel
    by_cases hlt : k < n
    · obtain ⟨b, o, ha, hb, hat⟩ := HG.out.row (by rw [HN.out]; omega)
      obtain ⟨b2, o2, ha2, hb2, hat2⟩ := HS.out.row (by rw [HL.out]; omega)
      have hkg : k < gs.length := by rw [HN.out]; exact hlt
      have hks : k < ss.length := by rw [HL.out]; exact hlt
      have R0 := range_later (hat k hkg) hbw hb
      have c0 : wr.cell? ⟨b2, o2 + k * 3, none⟩ = some (.int .i64 ss[k].pos) := by simpa using (range_later (hat2 k hks) hbw hb2) 0 _ rfl
      have hNo := HNo.out k hlt
      have hE : Hid ((ss.getD k default).pos = (gs.getD k default).travel → ShutTo gs ss (k + 1)) := hid (fun h i hi => by
        by_cases e : i = k
        · subst e; exact h
        · exact hf.out i (by omega))
      rw [show ss.getD k default = ss[k] by simp [List.getD, hks], show gs.getD k default = gs[k] by simp [List.getD, hkg]] at hNo hE
      have HNk := hid hNo
      subst ha ha2
      generalize ss[k] = s at *
      generalize gs[k] = g at *
      have bl : b < wr.heap.size := Nat.lt_of_lt_of_le hb hbw.size
      have bl2 : b2 < wr.heap.size := Nat.lt_of_lt_of_le hb2 hbw.size
      have hkI : (k : Int) < (n : Int) := by omega
      have hk0 : (0 : Int) ≤ (k : Int) := Int.natCast_nonneg _
      clear hat hat2 hNo hkg hks hb hb2
      go_wp2_with (first | (refine wpList_load_mid rfl 25 _ rfl b (o + k * 21) rfl (gtL g (ps k)) _ R0 Tryz.underlying25 rfl (by kernel_rfl) ?_) | (apply wpList_store_row (hg := heap_alloc_new wr _) (h1 := gtL_one g (ps k)); exact rfl; exact rfl; exact rfl; exact rfl; kernel_rfl; exact rfl))
      have RF := range_setRow (W := wr.alloc (.cells #[.string ⟨#[]⟩, .int .i64 0, .int .i64 0, .slice none 0 0, .int .i64 0, .int .i64 0, .int .i64 0, .int .i64 0, .int .i64 0, .int .i64 0, .int .i64 0, .int .i64 0, .int .i64 0, .int .i64 0, .int .i64 0, .int .i64 0, .int .i64 0, .int .i64 0, .int .i64 0, .slice none 0 0, .int .i64 0] 25)) (cs := gtL g (ps k)) (heap_alloc_new wr _)
      have BF := below_setRow (cs := (gtL g (ps k)).toArray) ((Below.refl wr.heap.size wr).alloc (Nat.le_refl _) (.cells #[.string ⟨#[]⟩, .int .i64 0, .int .i64 0, .slice none 0 0, .int .i64 0, .int .i64 0, .int .i64 0, .int .i64 0, .int .i64 0, .int .i64 0, .int .i64 0, .int .i64 0, .int .i64 0, .int .i64 0, .int .i64 0, .int .i64 0, .int .i64 0, .int .i64 0, .int .i64 0, .slice none 0 0, .int .i64 0] 25)) (Nat.le_refl _)
      simp only [Act.put, List.setIfInBounds_toArray, List.set_cons_zero, List.set_cons_succ]
      generalize World.setRow _ _ _ = F at *
      have f2 : F.cell? ⟨wr.heap.size, 2, none⟩ = some (.int .i64 g.travel) := range_cell RF rfl
      have f0 : F.cell? ⟨b2, o2 + k * 3, none⟩ = some (.int .i64 s.pos) := (BF.cell (p := ⟨b2, o2 + k * 3, none⟩) bl2).trans c0
      have hBF : Below w.heap.size w F := hbw.trans (BF.mono hbw.size)
      clear RF BF R0 c0
      by_cases he : s.pos = g.travel
      · have q : (s.pos != g.travel) = false := by simp [he]
        have HE2 := hid he
        clear he
        go_quiet (fail)
        go_wp2_with fail
        go_roundw
        case rel => exact ⟨k + 1, by omega, by go_num, hid (hE.out HE2.out), below_drewN hBF _⟩
        case measure => simp [intOf]; omega
      · have q : (s.pos != g.travel) = true := by simp [he]
        have HE2 := hid he
        clear he
        go_quiet (fail)
        go_wp2_with fail
        go_ret
        exact ⟨by rw [HNk.out HE2.out]; rfl, below_drewN hBF _⟩
    · have hkl : k = n := by omega
      have HL2 := hid hkl
      have hkI : ¬ (k : Int) < (n : Int) := by omega
      clear hkl hlt
      go_wp2_with fail
      go_ret
      exact ⟨by rw [HYes.out (by have := hf.out; rwa [HL2.out] at this)]; rfl, hbw⟩

theorem quietIn {P : Program} {f : FuncId} {args : Array Value} {w : World} {n : Nat} {v : Value}
    (h : Calls P f args (w.drewN n) fun e w' => e = .returned v ∧ w.drewN n = w') : Calls P f args (w.drewN n) fun e w'' => e = .returned v ∧ ∃ m, w'' = w.drewN m :=
  h.mono fun _ _ ⟨he, hm⟩ => ⟨he, n, hm.symm⟩
def offR (r : Ru) (i : Nat) (pos : Int) : Bool := decide (r.gate = (i : Int)) && !inB pos r.lo r.hi
theorem lock_yes {rs : List Ru} {i k : Nat} {ss : List St} (hk : k < rs.length) (h : offB (rs.getD k default) i ss = true) : lockF rs i ss false = 132 := by
  unfold lockF
  rw [if_neg (by simp), if_pos (idxP_some.2 ⟨k, Nat.zero_le _, by omega, h⟩)]
theorem lock_no {rs : List Ru} {i : Nat} {ss : List St} (h : ∀ k, k < rs.length → offB (rs.getD k default) i ss = false) : lockF rs i ss false = 0 := by
  unfold lockF
  rw [if_neg (by simp), if_neg]
  intro hc
  obtain ⟨j, _, h2, h3⟩ := idxP_some.1 hc
  rw [h j (by omega)] at h3
  cases h3
def FreeTo (rs : List Ru) (i : Nat) (ss : List St) (k : Nat) : Prop := ∀ j, j < k → offB (rs.getD j default) i ss = false

set_option maxRecDepth 100000 in
set_option maxHeartbeats 4000000 in
theorem interlock_any (z : SetV) (i : Nat) (sa : Option Addr) (ss : List St) (sc : Nat) (ship : Bool) (w : World) (hr : RowsL (fun _ r => ruL r) 4 w z.ra z.rs) (hs : RowsL (fun _ s => stL s) 3 w sa ss) (hrl : z.rs.length ≤ 140737488355328) (hi8 : i ≤ 140737488355328)
    (hot : ∀ k, k < z.rs.length → 0 ≤ (z.rs.getD k default).other ∧ (z.rs.getD k default).other < ss.length) :
    Calls Tryz.prog 88 #[.agg #[.slice z.ga z.gs.length z.gc, .slice z.ra z.rs.length z.rc], .int .i64 i, .slice sa ss.length sc, .bool ship] w fun e w' => e = .returned (.int .i64 (lockF z.rs i ss ship)) ∧ Below w.heap.size w w' := by
  obtain ⟨ga, gs, gc, ps, ra, rs, rc⟩ := z
  dsimp only at hr hrl hot ⊢
  cases ship
  · obtain ⟨V, hV⟩ : ∃ V, lockF rs i ss false = V := ⟨_, rfl⟩
    have HYes := hid (fun k (hk : k < rs.length) => lock_yes (rs := rs) (i := i) (ss := ss) hk)
    have HNo := hid (show FreeTo rs i ss rs.length → lockF rs i ss false = 0 from fun h => lock_no h)
    rw [hV] at HYes HNo
    rw [hV]
    have HR := hid hr; have HS := hid hs; have HOt := hid hot
    obtain ⟨n, hn⟩ : ∃ n, rs.length = n := ⟨_, rfl⟩
    have HN := hid hn
    rw [hn] at hrl HNo HYes HOt
    rw [hn]
    clear hV hr hs hot hn
    have hB1 : Below w.heap.size w (w.alloc (.cells #[.slice ga gs.length gc, .slice ra n rc] 60)) := (Below.refl _ _).alloc (Nat.le_refl _) _
    go_enter Tryz.func88, Tryz.ntmps88
    go_wp2_with fail
    generalize World.alloc w _ = W1 at *
    go_loopw [10, 15] (fun _ j wr => ∃ k : Nat, k ≤ n ∧ j = .int .i64 k ∧ Hid (FreeTo rs i ss k) ∧ Below w.heap.size w wr) (fun _ j _ => n - (intOf j).toNat)
    case atStart => exact ⟨0, Nat.zero_le _, rfl, hid (fun i hi => absurd hi (Nat.not_lt_zero _)), hB1⟩
    case round =>
      obtain ⟨k, hk, rfl, hf, hbw⟩ := hrel
      by_cases hlt : k < n
      · obtain ⟨b, o, ha, hb, hat⟩ := HR.out.row (by rw [HN.out]; omega)
        have hkr : k < rs.length := by rw [HN.out]; exact hlt
        have hot := HOt.out k hlt
        obtain ⟨b2, o2, ha2, hb2, hat2⟩ := HS.out.row (by omega)
        have R0 := range_later (hat k hkr) hbw hb
        have hYes := HYes.out k hlt
        have hE : Hid (offB (rs.getD k default) i ss = false → FreeTo rs i ss (k + 1)) := hid (fun h j hj => by
          by_cases e : j = k
          · subst e; exact h
          · exact hf.out j (by omega))
        rw [show rs.getD k default = rs[k] by simp [List.getD, hkr]] at hYes hE hot
        generalize rs[k] = r at *
        obtain ⟨m, hm⟩ : ∃ m : Nat, r.other = (m : Int) := ⟨r.other.toNat, by omega⟩
        have hms : m < ss.length := by omega
        have S0 := range_later (hat2 m hms) hbw hb2
        have hoff : Hid (offB r i ss = (decide (r.gate = (i : Int)) && !inB ss[m].pos r.lo r.hi)) := hid (by
          unfold offB; rw [hm]; simp [List.getD, hms])
        have k0 : wr.cell? ⟨b, o + k * 4, none⟩ = some (.int .i64 r.gate) := by simpa using R0 0 _ (show (ruL r)[0]? = some (.int .i64 r.gate) from rfl)
        have k1 : wr.cell? ⟨b, o + k * 4 + 1, none⟩ = some (.int .i64 r.other) := R0 1 _ rfl
        have k2 : wr.cell? ⟨b, o + k * 4 + 2, none⟩ = some (.int .i64 r.lo) := R0 2 _ rfl
        have k3 : wr.cell? ⟨b, o + k * 4 + 3, none⟩ = some (.int .i64 r.hi) := R0 3 _ rfl
        have s0 : wr.cell? ⟨b2, o2 + m * 3, none⟩ = some (.int .i64 ss[m].pos) := by simpa using S0 0 _ (show (stL ss[m])[0]? = some (.int .i64 ss[m].pos) from rfl)
        rw [hm] at k1
        generalize ss[m].pos = sp at *
        have HYk := hid hYes
        subst ha ha2
        have bl : b < wr.heap.size := Nat.lt_of_lt_of_le hb hbw.size
        have bl2 : b2 < wr.heap.size := Nat.lt_of_lt_of_le hb2 hbw.size
        have n2 : b2 ≠ wr.heap.size := by omega
        have hkI : (k : Int) < (n : Int) := by omega
        have hk0 : (0 : Int) ≤ (k : Int) := Int.natCast_nonneg _
        have hmI : (m : Int) < (ss.length : Int) := by omega
        have hm0 : (0 : Int) ≤ (m : Int) := Int.natCast_nonneg _
        clear hat hat2 hYes hkr hb hb2 R0 S0 hot hm
        go_wp2_with fail
        by_cases he : r.gate = (i : Int)
        · have q : (r.gate == (i : Int)) = true := by simp [he]
          have q2 : decide (r.gate = (i : Int)) = true := by simp [he]
          obtain ⟨c, hc⟩ : ∃ c, inB sp r.lo r.hi = c := ⟨_, rfl⟩
          rw [q2, hc] at hoff
          have HC := hid hc
          clear he q2 hc
          cases c
          · go_quiet ((go_at_call 73; exact quietIn (in_val _ _ _ _ _ HC.out)))
            go_wp2_with fail
            go_ret
            exact ⟨by rw [HYk.out (by rw [hoff.out]; rfl)]; rfl, below_drewN (hbw.alloc hbw.size _) _⟩
          · go_quiet ((go_at_call 73; exact quietIn (in_val _ _ _ _ _ HC.out)))
            go_wp2_with fail
            go_roundw
            case rel => exact ⟨k + 1, by omega, by go_num, hid (hE.out (by rw [hoff.out]; rfl)), below_drewN (hbw.alloc hbw.size _) _⟩
            case measure => simp [intOf]; omega
        · have q : (r.gate == (i : Int)) = false := by simp [he]
          have q2 : decide (r.gate = (i : Int)) = false := by simp [he]
          rw [q2] at hoff
          clear he
          go_quiet (fail)
          go_wp2_with fail
          go_roundw
          case rel => exact ⟨k + 1, by omega, by go_num, hid (hE.out (by rw [hoff.out]; rfl)), below_drewN (hbw.alloc hbw.size _) _⟩
          case measure => simp [intOf]; omega
      · have hkl : k = n := by omega
        have HL2 := hid hkl
        have hkI : ¬ (k : Int) < (n : Int) := by omega
        clear hkl hlt
        go_wp2_with fail
        go_ret
        exact ⟨by rw [HNo.out (by have := hf.out; rwa [HL2.out] at this)]; rfl, hbw⟩
  · have HE := hid (show lockF rs i ss true = 131 by unfold lockF; rw [if_pos rfl])
    clear hr hs hot
    go_enter Tryz.func88, Tryz.ntmps88
    go_wp2_with fail
    go_ret
    exact ⟨ret_iE (by rw [HE.out]), (Below.refl _ _).alloc (Nat.le_refl _) _⟩
end Go.Proofs.YtdoklolinbmhpaaGreat

set_option linter.all false
namespace Go.Proofs.YtdoklolinbmhpaaGreat
open Go.RowKit

theorem yieldsIf_build {P : Program} {ops : Array Oper} {S : World → Prop} {op : Oper} {a : Act} (hw : Region.wanted op (yielded ops a.tmps) = true) (ty : TypeId) (parts : Array (Nat × Operand)) (ho : op.op = .build ty parts)
    {vs : List (Nat × Value)} {cells : Array Value} (hb : P.built ty vs = some cells) (hvs : (parts.map fun (i, x) => (i, a.eval x)).toList = vs) : YieldsIf P ops S op (.agg cells) a :=
  .inl ⟨hw, fun w _ => by
    unfold execOp
    have := run_build w ty (parts.map fun (i, x) => (i, a.eval x)) cells (by rw [hvs]; exact hb)
    simp only [ho, Sem.run_bind, this, Result.andThen_ok, Sem.run_pure]⟩
theorem keepMv {w wr x y : World} {g : Gt} {ps : Nat → GtP} {k b2 o2 b3 o3 b4 o4 n gc rc bb : Nat} {s : St} {t : Sp} {hk : Bool} {ga ra : Option Addr} {rs : List Ru} (hA : bb < wr.heap.size ∧ w.heap.size + 1 < bb) (hb2 : b2 < wr.heap.size) (hb3 : b3 < wr.heap.size) (hb4 : b4 < wr.heap.size) (hxy : Below x.heap.size x y) (hX : wr.heap.size < x.heap.size) (h : Below w.heap.size w x ∧ x.rangeAt wr.heap.size 0 (gtL g (ps k)) ∧ x.cell? ⟨b2, o2 + k * 3, none⟩ = some (.int .i64 s.pos) ∧ x.cell? ⟨b2, o2 + k * 3 + 1, none⟩ = some (.int .i64 s.charge) ∧ x.cell? ⟨b2, o2 + k * 3 + 2, none⟩ = some (.bool s.bolted) ∧ x.cell? ⟨b3, o3 + k * 4, none⟩ = some (.int .i64 t.order) ∧ x.cell? ⟨b3, o3 + k * 4 + 1, none⟩ = some (.bool t.power) ∧ x.cell? ⟨b3, o3 + k * 4 + 2, none⟩ = some (.int .i64 t.outer) ∧ x.cell? ⟨b3, o3 + k * 4 + 3, none⟩ = some (.int .i64 t.inner) ∧ x.cell? ⟨b4, o4 + k, none⟩ = some (.bool hk) ∧ x.cell? ⟨w.heap.size, 0, none⟩ = some (.slice ga n gc) ∧ x.cell? ⟨w.heap.size, 1, none⟩ = some (.slice ra rs.length rc) ∧ (∃ v, x.cell? ⟨w.heap.size + 1, k * 3, none⟩ = some v) ∧ (∃ v, x.cell? ⟨w.heap.size + 1, k * 3 + 1, none⟩ = some v) ∧ (∃ v, x.cell? ⟨w.heap.size + 1, k * 3 + 2, none⟩ = some v) ∧ (∃ v, x.cell? ⟨bb, k * 3, none⟩ = some v) ∧ (∃ v, x.cell? ⟨bb, k * 3 + 1, none⟩ = some v) ∧ (∃ v, x.cell? ⟨bb, k * 3 + 2, none⟩ = some v) ∧ (∀ o, x.frozen? ⟨w.heap.size + 1, o, none⟩ = false) ∧ ∀ o, x.frozen? ⟨bb, o, none⟩ = false) : Below w.heap.size w y ∧ y.rangeAt wr.heap.size 0 (gtL g (ps k)) ∧ y.cell? ⟨b2, o2 + k * 3, none⟩ = some (.int .i64 s.pos) ∧ y.cell? ⟨b2, o2 + k * 3 + 1, none⟩ = some (.int .i64 s.charge) ∧ y.cell? ⟨b2, o2 + k * 3 + 2, none⟩ = some (.bool s.bolted) ∧ y.cell? ⟨b3, o3 + k * 4, none⟩ = some (.int .i64 t.order) ∧ y.cell? ⟨b3, o3 + k * 4 + 1, none⟩ = some (.bool t.power) ∧ y.cell? ⟨b3, o3 + k * 4 + 2, none⟩ = some (.int .i64 t.outer) ∧ y.cell? ⟨b3, o3 + k * 4 + 3, none⟩ = some (.int .i64 t.inner) ∧ y.cell? ⟨b4, o4 + k, none⟩ = some (.bool hk) ∧ y.cell? ⟨w.heap.size, 0, none⟩ = some (.slice ga n gc) ∧ y.cell? ⟨w.heap.size, 1, none⟩ = some (.slice ra rs.length rc) ∧ (∃ v, y.cell? ⟨w.heap.size + 1, k * 3, none⟩ = some v) ∧ (∃ v, y.cell? ⟨w.heap.size + 1, k * 3 + 1, none⟩ = some v) ∧ (∃ v, y.cell? ⟨w.heap.size + 1, k * 3 + 2, none⟩ = some v) ∧ (∃ v, y.cell? ⟨bb, k * 3, none⟩ = some v) ∧ (∃ v, y.cell? ⟨bb, k * 3 + 1, none⟩ = some v) ∧ (∃ v, y.cell? ⟨bb, k * 3 + 2, none⟩ = some v) ∧ (∀ o, y.frozen? ⟨w.heap.size + 1, o, none⟩ = false) ∧ ∀ o, y.frozen? ⟨bb, o, none⟩ = false := by
  obtain ⟨below, rows, s0, s1, s2, t0, t1, t2, t3, h0, z0, z1, a0, a1, a2, e0, e1, e2, fa, fe⟩ := h
  have hs := below.size
  have c : ∀ q j, q ≤ wr.heap.size → y.cell? ⟨q, j, none⟩ = x.cell? ⟨q, j, none⟩ := fun q j hq => hxy.cell (p := ⟨q, j, none⟩) (by show q < x.heap.size; omega)
  have f : ∀ q j, q ≤ wr.heap.size → y.frozen? ⟨q, j, none⟩ = x.frozen? ⟨q, j, none⟩ := fun q j hq => hxy.frozen (p := ⟨q, j, none⟩) (by show q < x.heap.size; omega)
  exact ⟨below.trans (hxy.mono hs), range_later rows hxy hX, (c _ _ (by omega)).trans s0, (c _ _ (by omega)).trans s1, (c _ _ (by omega)).trans s2, (c _ _ (by omega)).trans t0, (c _ _ (by omega)).trans t1, (c _ _ (by omega)).trans t2, (c _ _ (by omega)).trans t3, (c _ _ (by omega)).trans h0, (c _ _ (by omega)).trans z0, (c _ _ (by omega)).trans z1, by rw [c _ _ (by omega)]; exact a0, by rw [c _ _ (by omega)]; exact a1, by rw [c _ _ (by omega)]; exact a2, by rw [c _ _ (by omega)]; exact e0, by rw [c _ _ (by omega)]; exact e1, by rw [c _ _ (by omega)]; exact e2, fun o => (f _ _ (by omega)).trans (fa o), fun o => (f _ _ (by omega)).trans (fe o)⟩
theorem keepMv2 {w wr x y : World} {g : Gt} {ps : Nat → GtP} {k b2 o2 b3 o3 b4 o4 n gc rc bb : Nat} {s : St} {t : Sp} {hk : Bool} {ga ra : Option Addr} {rs : List Ru} (hA : bb < wr.heap.size ∧ w.heap.size + 1 < bb) (hb2 : b2 < wr.heap.size) (hb3 : b3 < wr.heap.size) (hb4 : b4 < wr.heap.size) (hxy : Below x.heap.size x y) (h : Below w.heap.size w x ∧ x.rangeAt wr.heap.size 0 (gtL g (ps k)) ∧ x.cell? ⟨b2, o2 + k * 3, none⟩ = some (.int .i64 s.pos) ∧ x.cell? ⟨b2, o2 + k * 3 + 1, none⟩ = some (.int .i64 s.charge) ∧ x.cell? ⟨b2, o2 + k * 3 + 2, none⟩ = some (.bool s.bolted) ∧ x.cell? ⟨b3, o3 + k * 4, none⟩ = some (.int .i64 t.order) ∧ x.cell? ⟨b3, o3 + k * 4 + 1, none⟩ = some (.bool t.power) ∧ x.cell? ⟨b3, o3 + k * 4 + 2, none⟩ = some (.int .i64 t.outer) ∧ x.cell? ⟨b3, o3 + k * 4 + 3, none⟩ = some (.int .i64 t.inner) ∧ x.cell? ⟨b4, o4 + k, none⟩ = some (.bool hk) ∧ x.cell? ⟨w.heap.size, 0, none⟩ = some (.slice ga n gc) ∧ x.cell? ⟨w.heap.size, 1, none⟩ = some (.slice ra rs.length rc) ∧ (∃ v, x.cell? ⟨w.heap.size + 1, k * 3, none⟩ = some v) ∧ (∃ v, x.cell? ⟨w.heap.size + 1, k * 3 + 1, none⟩ = some v) ∧ (∃ v, x.cell? ⟨w.heap.size + 1, k * 3 + 2, none⟩ = some v) ∧ (∃ v, x.cell? ⟨bb, k * 3, none⟩ = some v) ∧ (∃ v, x.cell? ⟨bb, k * 3 + 1, none⟩ = some v) ∧ (∃ v, x.cell? ⟨bb, k * 3 + 2, none⟩ = some v) ∧ (∀ o, x.frozen? ⟨w.heap.size + 1, o, none⟩ = false) ∧ (∀ o, x.frozen? ⟨bb, o, none⟩ = false) ∧ wr.heap.size < x.heap.size) : Below w.heap.size w y ∧ y.rangeAt wr.heap.size 0 (gtL g (ps k)) ∧ y.cell? ⟨b2, o2 + k * 3, none⟩ = some (.int .i64 s.pos) ∧ y.cell? ⟨b2, o2 + k * 3 + 1, none⟩ = some (.int .i64 s.charge) ∧ y.cell? ⟨b2, o2 + k * 3 + 2, none⟩ = some (.bool s.bolted) ∧ y.cell? ⟨b3, o3 + k * 4, none⟩ = some (.int .i64 t.order) ∧ y.cell? ⟨b3, o3 + k * 4 + 1, none⟩ = some (.bool t.power) ∧ y.cell? ⟨b3, o3 + k * 4 + 2, none⟩ = some (.int .i64 t.outer) ∧ y.cell? ⟨b3, o3 + k * 4 + 3, none⟩ = some (.int .i64 t.inner) ∧ y.cell? ⟨b4, o4 + k, none⟩ = some (.bool hk) ∧ y.cell? ⟨w.heap.size, 0, none⟩ = some (.slice ga n gc) ∧ y.cell? ⟨w.heap.size, 1, none⟩ = some (.slice ra rs.length rc) ∧ (∃ v, y.cell? ⟨w.heap.size + 1, k * 3, none⟩ = some v) ∧ (∃ v, y.cell? ⟨w.heap.size + 1, k * 3 + 1, none⟩ = some v) ∧ (∃ v, y.cell? ⟨w.heap.size + 1, k * 3 + 2, none⟩ = some v) ∧ (∃ v, y.cell? ⟨bb, k * 3, none⟩ = some v) ∧ (∃ v, y.cell? ⟨bb, k * 3 + 1, none⟩ = some v) ∧ (∃ v, y.cell? ⟨bb, k * 3 + 2, none⟩ = some v) ∧ (∀ o, y.frozen? ⟨w.heap.size + 1, o, none⟩ = false) ∧ (∀ o, y.frozen? ⟨bb, o, none⟩ = false) ∧ wr.heap.size < y.heap.size := by
  obtain ⟨below, rows, s0, s1, s2, t0, t1, t2, t3, h0, z0, z1, a0, a1, a2, e0, e1, e2, fa, fe, hX⟩ := h
  obtain ⟨below, rows, s0, s1, s2, t0, t1, t2, t3, h0, z0, z1, a0, a1, a2, e0, e1, e2, fa, fe⟩ := keepMv hA hb2 hb3 hb4 hxy hX ⟨below, rows, s0, s1, s2, t0, t1, t2, t3, h0, z0, z1, a0, a1, a2, e0, e1, e2, fa, fe⟩
  exact ⟨below, rows, s0, s1, s2, t0, t1, t2, t3, h0, z0, z1, a0, a1, a2, e0, e1, e2, fa, fe, Nat.lt_of_lt_of_le hX hxy.size⟩
theorem keepMvS {w wr x : World} {g : Gt} {ps : Nat → GtP} {k b2 o2 b3 o3 b4 o4 n gc rc bb : Nat} {s : St} {t : Sp} {hk : Bool} {ga ra : Option Addr} {rs : List Ru} {C : Nat} {v0 v1 v2 : Value} (hC : C = w.heap.size + 1 ∨ C = bb) (hA : bb < wr.heap.size ∧ w.heap.size + 1 < bb) (hb2 : b2 < w.heap.size) (hb3 : b3 < w.heap.size) (hb4 : b4 < w.heap.size) (h : Below w.heap.size w x ∧ x.rangeAt wr.heap.size 0 (gtL g (ps k)) ∧ x.cell? ⟨b2, o2 + k * 3, none⟩ = some (.int .i64 s.pos) ∧ x.cell? ⟨b2, o2 + k * 3 + 1, none⟩ = some (.int .i64 s.charge) ∧ x.cell? ⟨b2, o2 + k * 3 + 2, none⟩ = some (.bool s.bolted) ∧ x.cell? ⟨b3, o3 + k * 4, none⟩ = some (.int .i64 t.order) ∧ x.cell? ⟨b3, o3 + k * 4 + 1, none⟩ = some (.bool t.power) ∧ x.cell? ⟨b3, o3 + k * 4 + 2, none⟩ = some (.int .i64 t.outer) ∧ x.cell? ⟨b3, o3 + k * 4 + 3, none⟩ = some (.int .i64 t.inner) ∧ x.cell? ⟨b4, o4 + k, none⟩ = some (.bool hk) ∧ x.cell? ⟨w.heap.size, 0, none⟩ = some (.slice ga n gc) ∧ x.cell? ⟨w.heap.size, 1, none⟩ = some (.slice ra rs.length rc) ∧ (∃ v, x.cell? ⟨w.heap.size + 1, k * 3, none⟩ = some v) ∧ (∃ v, x.cell? ⟨w.heap.size + 1, k * 3 + 1, none⟩ = some v) ∧ (∃ v, x.cell? ⟨w.heap.size + 1, k * 3 + 2, none⟩ = some v) ∧ (∃ v, x.cell? ⟨bb, k * 3, none⟩ = some v) ∧ (∃ v, x.cell? ⟨bb, k * 3 + 1, none⟩ = some v) ∧ (∃ v, x.cell? ⟨bb, k * 3 + 2, none⟩ = some v) ∧ (∀ o, x.frozen? ⟨w.heap.size + 1, o, none⟩ = false) ∧ (∀ o, x.frozen? ⟨bb, o, none⟩ = false) ∧ wr.heap.size < x.heap.size) : Below w.heap.size w (((x.setCell ⟨C, k * 3, none⟩ v0).setCell ⟨C, k * 3 + 1, none⟩ v1).setCell ⟨C, k * 3 + 2, none⟩ v2) ∧ (((x.setCell ⟨C, k * 3, none⟩ v0).setCell ⟨C, k * 3 + 1, none⟩ v1).setCell ⟨C, k * 3 + 2, none⟩ v2).rangeAt wr.heap.size 0 (gtL g (ps k)) ∧ (((x.setCell ⟨C, k * 3, none⟩ v0).setCell ⟨C, k * 3 + 1, none⟩ v1).setCell ⟨C, k * 3 + 2, none⟩ v2).cell? ⟨b2, o2 + k * 3, none⟩ = some (.int .i64 s.pos) ∧ (((x.setCell ⟨C, k * 3, none⟩ v0).setCell ⟨C, k * 3 + 1, none⟩ v1).setCell ⟨C, k * 3 + 2, none⟩ v2).cell? ⟨b2, o2 + k * 3 + 1, none⟩ = some (.int .i64 s.charge) ∧ (((x.setCell ⟨C, k * 3, none⟩ v0).setCell ⟨C, k * 3 + 1, none⟩ v1).setCell ⟨C, k * 3 + 2, none⟩ v2).cell? ⟨b2, o2 + k * 3 + 2, none⟩ = some (.bool s.bolted) ∧ (((x.setCell ⟨C, k * 3, none⟩ v0).setCell ⟨C, k * 3 + 1, none⟩ v1).setCell ⟨C, k * 3 + 2, none⟩ v2).cell? ⟨b3, o3 + k * 4, none⟩ = some (.int .i64 t.order) ∧ (((x.setCell ⟨C, k * 3, none⟩ v0).setCell ⟨C, k * 3 + 1, none⟩ v1).setCell ⟨C, k * 3 + 2, none⟩ v2).cell? ⟨b3, o3 + k * 4 + 1, none⟩ = some (.bool t.power) ∧ (((x.setCell ⟨C, k * 3, none⟩ v0).setCell ⟨C, k * 3 + 1, none⟩ v1).setCell ⟨C, k * 3 + 2, none⟩ v2).cell? ⟨b3, o3 + k * 4 + 2, none⟩ = some (.int .i64 t.outer) ∧ (((x.setCell ⟨C, k * 3, none⟩ v0).setCell ⟨C, k * 3 + 1, none⟩ v1).setCell ⟨C, k * 3 + 2, none⟩ v2).cell? ⟨b3, o3 + k * 4 + 3, none⟩ = some (.int .i64 t.inner) ∧ (((x.setCell ⟨C, k * 3, none⟩ v0).setCell ⟨C, k * 3 + 1, none⟩ v1).setCell ⟨C, k * 3 + 2, none⟩ v2).cell? ⟨b4, o4 + k, none⟩ = some (.bool hk) ∧ (((x.setCell ⟨C, k * 3, none⟩ v0).setCell ⟨C, k * 3 + 1, none⟩ v1).setCell ⟨C, k * 3 + 2, none⟩ v2).cell? ⟨w.heap.size, 0, none⟩ = some (.slice ga n gc) ∧ (((x.setCell ⟨C, k * 3, none⟩ v0).setCell ⟨C, k * 3 + 1, none⟩ v1).setCell ⟨C, k * 3 + 2, none⟩ v2).cell? ⟨w.heap.size, 1, none⟩ = some (.slice ra rs.length rc) ∧ (∃ v, (((x.setCell ⟨C, k * 3, none⟩ v0).setCell ⟨C, k * 3 + 1, none⟩ v1).setCell ⟨C, k * 3 + 2, none⟩ v2).cell? ⟨w.heap.size + 1, k * 3, none⟩ = some v) ∧ (∃ v, (((x.setCell ⟨C, k * 3, none⟩ v0).setCell ⟨C, k * 3 + 1, none⟩ v1).setCell ⟨C, k * 3 + 2, none⟩ v2).cell? ⟨w.heap.size + 1, k * 3 + 1, none⟩ = some v) ∧ (∃ v, (((x.setCell ⟨C, k * 3, none⟩ v0).setCell ⟨C, k * 3 + 1, none⟩ v1).setCell ⟨C, k * 3 + 2, none⟩ v2).cell? ⟨w.heap.size + 1, k * 3 + 2, none⟩ = some v) ∧ (∃ v, (((x.setCell ⟨C, k * 3, none⟩ v0).setCell ⟨C, k * 3 + 1, none⟩ v1).setCell ⟨C, k * 3 + 2, none⟩ v2).cell? ⟨bb, k * 3, none⟩ = some v) ∧ (∃ v, (((x.setCell ⟨C, k * 3, none⟩ v0).setCell ⟨C, k * 3 + 1, none⟩ v1).setCell ⟨C, k * 3 + 2, none⟩ v2).cell? ⟨bb, k * 3 + 1, none⟩ = some v) ∧ (∃ v, (((x.setCell ⟨C, k * 3, none⟩ v0).setCell ⟨C, k * 3 + 1, none⟩ v1).setCell ⟨C, k * 3 + 2, none⟩ v2).cell? ⟨bb, k * 3 + 2, none⟩ = some v) ∧ (∀ o, (((x.setCell ⟨C, k * 3, none⟩ v0).setCell ⟨C, k * 3 + 1, none⟩ v1).setCell ⟨C, k * 3 + 2, none⟩ v2).frozen? ⟨w.heap.size + 1, o, none⟩ = false) ∧ (∀ o, (((x.setCell ⟨C, k * 3, none⟩ v0).setCell ⟨C, k * 3 + 1, none⟩ v1).setCell ⟨C, k * 3 + 2, none⟩ v2).frozen? ⟨bb, o, none⟩ = false) ∧ wr.heap.size < (((x.setCell ⟨C, k * 3, none⟩ v0).setCell ⟨C, k * 3 + 1, none⟩ v1).setCell ⟨C, k * 3 + 2, none⟩ v2).heap.size := by
  obtain ⟨below, rows, s0, s1, s2, t0, t1, t2, t3, h0, z0, z1, a0, a1, a2, e0, e1, e2, fa, fe, hX⟩ := h
  have c : ∀ q j, q ≠ C → (((x.setCell ⟨C, k * 3, none⟩ v0).setCell ⟨C, k * 3 + 1, none⟩ v1).setCell ⟨C, k * 3 + 2, none⟩ v2).cell? ⟨q, j, none⟩ = x.cell? ⟨q, j, none⟩ := fun q j hq => (cs_o (.inl hq)).trans ((cs_o (.inl hq)).trans (cs_o (.inl hq)))
  have b1 : Below w.heap.size w (((x.setCell ⟨C, k * 3, none⟩ v0).setCell ⟨C, k * 3 + 1, none⟩ v1).setCell ⟨C, k * 3 + 2, none⟩ v2) := ((below.setCell (by show w.heap.size ≤ C; omega) _).setCell (by show w.heap.size ≤ C; omega) _).setCell (by show w.heap.size ≤ C; omega) _
  exact ⟨b1, fun j v hv => (c _ _ (by omega)).trans (rows j v hv), (c _ _ (by omega)).trans s0, (c _ _ (by omega)).trans s1, (c _ _ (by omega)).trans s2, (c _ _ (by omega)).trans t0, (c _ _ (by omega)).trans t1, (c _ _ (by omega)).trans t2, (c _ _ (by omega)).trans t3, (c _ _ (by omega)).trans h0, (c _ _ (by omega)).trans z0, (c _ _ (by omega)).trans z1, cell_ex (cell_ex (cell_ex a0)), cell_ex (cell_ex (cell_ex a1)), cell_ex (cell_ex (cell_ex a2)), cell_ex (cell_ex (cell_ex e0)), cell_ex (cell_ex (cell_ex e1)), cell_ex (cell_ex (cell_ex e2)), fun o => by simpa using fa o, fun o => by simpa using fe o, by simpa using hX⟩
/-- What has been moved so far. -/
structure MvInv (wr : World) (A B n k : Nat) (mv : Nat → St × Int × Int × Int) : Prop where
  ra : ∀ j, j < k → wr.rangeAt A (j * 3) (stL (mv j).1)
  rb : ∀ j, j < k → wr.rangeAt B (j * 3) (moL (mv j).2)
  xa : ∀ j, j < n * 3 → ∃ v, wr.cell? ⟨A, j, none⟩ = some v
  xb : ∀ j, j < n * 3 → ∃ v, wr.cell? ⟨B, j, none⟩ = some v
  fa : ∀ o, wr.frozen? ⟨A, o, none⟩ = false
  fb : ∀ o, wr.frozen? ⟨B, o, none⟩ = false
theorem three {x : World} {C o : Nat} {a b c : Value} (h0 : x.cell? ⟨C, o, none⟩ = some a) (h1 : x.cell? ⟨C, o + 1, none⟩ = some b) (h2 : x.cell? ⟨C, o + 2, none⟩ = some c) : x.rangeAt C o [a, b, c] := fun j v hv => by
  match j with
  | 0 => simp at hv; subst hv; simpa using h0
  | 1 => simp at hv; subst hv; exact h1
  | 2 => simp at hv; subst hv; exact h2
  | n + 3 => simp at hv
theorem MvInv.next {wr U : World} {A B n k : Nat} {mv : Nat → St × Int × Int × Int} (h : MvInv wr A B n k mv) (hAB : A ≠ B) (hA : A < wr.heap.size) (hB : B < wr.heap.size) (hb : Below wr.heap.size wr U) (hk : k < n) : MvInv ((((((U.setCell ⟨A, k * 3, none⟩ (.int .i64 (mv k).1.pos)).setCell ⟨A, k * 3 + 1, none⟩ (.int .i64 (mv k).1.charge)).setCell ⟨A, k * 3 + 2, none⟩ (.bool (mv k).1.bolted)).setCell ⟨B, k * 3, none⟩ (.int .i64 (mv k).2.1)).setCell ⟨B, k * 3 + 1, none⟩ (.int .i64 (mv k).2.2.1)).setCell ⟨B, k * 3 + 2, none⟩ (.int .i64 (mv k).2.2.2)) A B n (k + 1) mv := by
  have ua : ∀ j, U.cell? ⟨A, j, none⟩ = wr.cell? ⟨A, j, none⟩ := fun j => hb.cell (p := ⟨A, j, none⟩) hA
  have ub : ∀ j, U.cell? ⟨B, j, none⟩ = wr.cell? ⟨B, j, none⟩ := fun j => hb.cell (p := ⟨B, j, none⟩) hB
  have va : ∀ j, U.frozen? ⟨A, j, none⟩ = false := fun j => (hb.frozen (p := ⟨A, j, none⟩) hA).trans (h.fa j)
  have vb : ∀ j, U.frozen? ⟨B, j, none⟩ = false := fun j => (hb.frozen (p := ⟨B, j, none⟩) hB).trans (h.fb j)
  have ea : ∀ j, j < n * 3 → ∃ v, U.cell? ⟨A, j, none⟩ = some v := fun j hj => by rw [ua]; exact h.xa j hj
  have eb : ∀ j, j < n * 3 → ∃ v, U.cell? ⟨B, j, none⟩ = some v := fun j hj => by rw [ub]; exact h.xb j hj
  have ga : ∀ j, j < k * 3 ∨ k * 3 + 3 ≤ j → ((((((U.setCell ⟨A, k * 3, none⟩ (.int .i64 (mv k).1.pos)).setCell ⟨A, k * 3 + 1, none⟩ (.int .i64 (mv k).1.charge)).setCell ⟨A, k * 3 + 2, none⟩ (.bool (mv k).1.bolted)).setCell ⟨B, k * 3, none⟩ (.int .i64 (mv k).2.1)).setCell ⟨B, k * 3 + 1, none⟩ (.int .i64 (mv k).2.2.1)).setCell ⟨B, k * 3 + 2, none⟩ (.int .i64 (mv k).2.2.2)).cell? ⟨A, j, none⟩ = wr.cell? ⟨A, j, none⟩ := fun j hj => by
    rw [cs_o (.inl hAB), cs_o (.inl hAB), cs_o (.inl hAB), cs_o (.inr (by omega)), cs_o (.inr (by omega)), cs_o (.inr (by omega)), ua]
  have gb : ∀ j, j < k * 3 ∨ k * 3 + 3 ≤ j → ((((((U.setCell ⟨A, k * 3, none⟩ (.int .i64 (mv k).1.pos)).setCell ⟨A, k * 3 + 1, none⟩ (.int .i64 (mv k).1.charge)).setCell ⟨A, k * 3 + 2, none⟩ (.bool (mv k).1.bolted)).setCell ⟨B, k * 3, none⟩ (.int .i64 (mv k).2.1)).setCell ⟨B, k * 3 + 1, none⟩ (.int .i64 (mv k).2.2.1)).setCell ⟨B, k * 3 + 2, none⟩ (.int .i64 (mv k).2.2.2)).cell? ⟨B, j, none⟩ = wr.cell? ⟨B, j, none⟩ := fun j hj => by
    rw [cs_o (.inr (by omega)), cs_o (.inr (by omega)), cs_o (.inr (by omega)), cs_o (.inl hAB.symm), cs_o (.inl hAB.symm), cs_o (.inl hAB.symm), ub]
  refine ⟨fun j hj => ?_, fun j hj => ?_, fun j hj => ?_, fun j hj => ?_, fun o => by simpa using va o, fun o => by simpa using vb o⟩
  · by_cases e : j = k
    · subst e
      refine three ?_ ?_ ?_
      · rw [cs_o (.inl hAB), cs_o (.inl hAB), cs_o (.inl hAB), cs_o (.inr (by omega)), cs_o (.inr (by omega))]; exact cs_s (ea _ (by omega))
      · rw [cs_o (.inl hAB), cs_o (.inl hAB), cs_o (.inl hAB), cs_o (.inr (by omega))]; exact cs_s (cell_ex (ea _ (by omega)))
      · rw [cs_o (.inl hAB), cs_o (.inl hAB), cs_o (.inl hAB)]; exact cs_s (cell_ex (cell_ex (ea _ (by omega))))
    · intro c v hv
      have hc : c < 3 := (List.getElem?_eq_some_iff.1 hv).1
      rw [ga _ (by omega)]
      exact h.ra j (by omega) c v hv
  · by_cases e : j = k
    · subst e
      refine three ?_ ?_ ?_
      · rw [cs_o (.inr (by omega)), cs_o (.inr (by omega))]; exact cs_s (cell_ex (cell_ex (cell_ex (eb _ (by omega)))))
      · rw [cs_o (.inr (by omega))]; exact cs_s (cell_ex (cell_ex (cell_ex (cell_ex (eb _ (by omega))))))
      · exact cs_s (cell_ex (cell_ex (cell_ex (cell_ex (cell_ex (eb _ (by omega)))))))
    · intro c v hv
      have hc : c < 3 := (List.getElem?_eq_some_iff.1 hv).1
      rw [gb _ (by omega)]
      exact h.rb j (by omega) c v hv
  · exact cell_ex (cell_ex (cell_ex (cell_ex (cell_ex (cell_ex (ea j hj))))))
  · exact cell_ex (cell_ex (cell_ex (cell_ex (cell_ex (cell_ex (eb j hj))))))
end Go.Proofs.YtdoklolinbmhpaaGreat

set_option linter.all false
namespace Go.Proofs.YtdoklolinbmhpaaGreat
open Go.RowKit

theorem Tryz.infoSt : (Tryz.prog.info? 27).map (fun i => (i.zero, i.size, i.bytes)) = some (some (.agg #[.int .i64 0, .int .i64 0, .bool false]), 3, 24) := by kernel_rfl
theorem Tryz.infoMo : (Tryz.prog.info? 31).map (fun i => (i.zero, i.size, i.bytes)) = some (some (.agg #[.int .i64 0, .int .i64 0, .int .i64 0]), 3, 24) := by kernel_rfl
/-- What move returns. -/
def Moved (w : World) (n : Nat) (mv : Nat → St × Int × Int × Int) (e : Ending) (w' : World) : Prop :=
  ∃ A B, e = .returned (.tuple #[.slice (some ⟨A, 0, none⟩) n n, .slice (some ⟨B, 0, none⟩) n n]) ∧ (A < w'.heap.size ∧ B < w'.heap.size) ∧ (∀ j, j < n → w'.rangeAt A (j * 3) (stL (mv j).1)) ∧ (∀ j, j < n → w'.rangeAt B (j * 3) (moL (mv j).2)) ∧ Below w.heap.size w w'
set_option maxRecDepth 100000 in
set_option maxHeartbeats 8000000 in
theorem move_any (ga sa ta ha ra : Option Addr) (gs : List Gt) (rs : List Ru) (ss : List St) (ts : List Sp) (hs : List Bool) (gc sc tc hc rc n : Nat) (ps : Nat → GtP) (w : World) (hn : gs.length = n) (hgr : RowsL (fun i g => gtL g (ps i)) 21 w ga gs) (hgo : ∀ i (h : i < gs.length), GtOk w (ps i) gs[i]) (hru : RowsL (fun _ r => ruL r) 4 w ra rs)
    (hss : RowsL (fun _ s => stL s) 3 w sa ss) (hts : RowsL (fun _ s => spL s) 4 w ta ts) (hhs : RowsL (fun _ b => [.bool b]) 1 w ha hs) (ls : ss.length = n) (lt : ts.length = n) (lh : hs.length = n) (hgood : SetGood gs rs)
    (hst : ∀ i, i < n → StGood (gs.getD i default) (ss.getD i default)) (hsp : ∀ i, i < n → SpGood (ts.getD i default)) :
    Calls Tryz.prog 55 #[.agg #[.slice ga n gc, .slice ra rs.length rc], .slice sa n sc, .slice ta n tc, .slice ha n hc] w (Moved w n (moveF gs rs ss ts hs)) := by
  obtain ⟨mv, hmv⟩ : ∃ mv, moveF gs rs ss ts hs = mv := ⟨_, rfl⟩
  have HMv := hid (fun k => show mv k = stepF (gs.getD k default) (ss.getD k default) (ts.getD k default) (lockF rs k ss (hs.getD k false)) by rw [← hmv]; rfl)
  rw [hmv]
  have hn6 : n ≤ 6 := by have := hgood.glen; omega
  have HGr := hid hgr; have HGo := hid hgo; have HRu := hid hru; have HSs := hid hss; have HTs := hid hts; have HHs := hid hhs
  have HLg := hid hn; have HLs := hid ls; have HLt := hid lt; have HLh := hid lh; have HGd := hid hgood; have HSt0 := hid hst; have HSp0 := hid hsp
  clear hmv hgr hgo hru hss hts hhs hn ls lt lh hgood hst hsp
  obtain ⟨i0, hi, hz0, hz1, hz2⟩ := info_parts Tryz.infoSt
  obtain ⟨i1, ki, kz0, kz1, kz2⟩ := info_parts Tryz.infoMo
  go_enter Tryz.func55, Tryz.ntmps55
  go_wp2_with (first | (at_make; refine wpList_make_full _ rfl _ _ _ rfl (w.heap.size + 1) 27 i0 (.agg #[.int .i64 0, .int .i64 0, .bool false]) 3 Tryz.underlying36 hi hz0 hz1 .i64 .i64 _ _ n rfl rfl rfl rfl (by rw [hz2]; omega) (by unfold maxLen; omega) (by simp) ?_; intro W2 hown hgrow; have t0 : W2.cell? ⟨w.heap.size, 0, none⟩ = some (.slice ga n gc) := hgrow.cell (by simp [go_sem]) (by simp); have t1 : W2.cell? ⟨w.heap.size, 1, none⟩ = some (.slice ra rs.length rc) := hgrow.cell (by simp [go_sem]) (by simp)) | (at_make; refine wpList_make_full _ rfl _ _ _ rfl W2.heap.size 31 i1 (.agg #[.int .i64 0, .int .i64 0, .int .i64 0]) 3 Tryz.underlying64 ki kz0 kz1 .i64 .i64 _ _ n rfl rfl rfl rfl (by rw [kz2]; omega) (by unfold maxLen; omega) (Nat.le_refl _) ?_; intro W3 kown kgrow; have S2 : w.heap.size + 1 < W2.heap.size := (by have := (hown.lt _ rfl).2; simpa using this); have u0 : W3.cell? ⟨w.heap.size, 0, none⟩ = some (.slice ga n gc) := kgrow.cell t0 (by simp); have u1 : W3.cell? ⟨w.heap.size, 1, none⟩ = some (.slice ra rs.length rc) := kgrow.cell t1 (by simp); clear t0 t1))
  have B1 : Below w.heap.size w W2 := ((Below.refl _ _).alloc (Nat.le_refl _) _).grown hgrow (by simp) (by intro k e; cases e)
  have B2 : Below W2.heap.size W2 W3 := (Below.refl _ _).grown kgrow (Nat.le_refl _) (by intro k e; cases e)
  have S3 : W2.heap.size < W3.heap.size := (kown.lt _ rfl).2
  simp only [World.size_alloc] at hown
  have I0 : Hid (MvInv W3 (w.heap.size + 1) W2.heap.size n 0 mv) := hid (by
    refine ⟨fun j hj => absurd hj (Nat.not_lt_zero _), fun j hj => absurd hj (Nat.not_lt_zero _), fun j hj => ?_, fun j hj => ?_, fun o => ?_, fun o => kown.frozenAt o⟩
    · rw [B2.cell (p := ⟨w.heap.size + 1, j, none⟩) S2, hown.cellAt j hj]; exact ⟨_, List.getElem?_eq_getElem (by rw [hown.1]; exact hj)⟩
    · rw [kown.cellAt j hj]; exact ⟨_, List.getElem?_eq_getElem (by rw [kown.1]; exact hj)⟩
    · rw [B2.frozen (p := ⟨w.heap.size + 1, o, none⟩) S2]; exact hown.frozenAt o)
  have BW3 : Below w.heap.size w W3 := B1.trans (B2.mono B1.size)
  generalize W2.heap.size = bb at *
  clear hown kown hgrow kgrow hi hz0 hz1 hz2 ki kz0 kz1 kz2 B1 B2
  go_loopw [12, 13, 25] (fun _ _ j wr => ∃ k : Nat, k ≤ n ∧ j = .int .i64 k ∧ Hid (MvInv wr (w.heap.size + 1) bb n k mv) ∧ Below w.heap.size w wr ∧ bb < wr.heap.size ∧ wr.cell? ⟨w.heap.size, 0, none⟩ = some (.slice ga n gc) ∧ wr.cell? ⟨w.heap.size, 1, none⟩ = some (.slice ra rs.length rc)) (fun _ _ j _ => n - (intOf j).toNat)
  case atStart => exact ⟨0, Nat.zero_le _, rfl, I0, BW3, S3, u0, u1⟩
  case round =>
    obtain ⟨k, hk, rfl, HI, hbw, hbbw, u0', u1'⟩ := hrel
    clear u0 u1 I0
    by_cases hlt : k < n
    · obtain ⟨b, o, ea, hb, hat⟩ := HGr.out.row (by rw [HLg.out]; omega)
      obtain ⟨b2, o2, ea2, hb2, hat2⟩ := HSs.out.row (by rw [HLs.out]; omega)
      obtain ⟨b3, o3, ea3, hb3, hat3⟩ := HTs.out.row (by rw [HLt.out]; omega)
      obtain ⟨b4, o4, ea4, hb4, hat4⟩ := HHs.out.row (by rw [HLh.out]; omega)
      have hkg : k < gs.length := by rw [HLg.out]; exact hlt
      have hks : k < ss.length := by rw [HLs.out]; exact hlt
      have hkt : k < ts.length := by rw [HLt.out]; exact hlt
      have hkh : k < hs.length := by rw [HLh.out]; exact hlt
      have R0 := range_later (hat k hkg) hbw hb
      have Rs := range_later (hat2 k hks) hbw hb2
      have Rt := range_later (hat3 k hkt) hbw hb3
      have h0 : wr.cell? ⟨b4, o4 + k, none⟩ = some (.bool hs[k]) := by simpa using (range_later (hat4 k hkh) hbw hb4) 0 _ rfl
      have hmv := HMv.out k
      have gok := HGo.out k hkg
      have hgk := HGd.out.gates k hkg
      have hsk := HSt0.out k hlt
      have htk := HSp0.out k hlt
      rw [show ss.getD k default = ss[k] by simp [List.getD, hks], show gs.getD k default = gs[k] by simp [List.getD, hkg]] at hsk hmv
      rw [show gs.getD k default = gs[k] by simp [List.getD, hkg]] at hgk
      rw [show ts.getD k default = ts[k] by simp [List.getD, hkt]] at htk hmv
      rw [show hs.getD k false = hs[k] by simp [List.getD, hkh]] at hmv
      have HIl := hid (fun W (hW : Below w.heap.size w W) => interlock_any ⟨ga, gs, gc, ps, ra, rs, rc⟩ k sa ss sc hs[k] W (HRu.out.later hW (Nat.le_refl _)) (HSs.out.later hW (Nat.le_refl _)) (by have := HGd.out.rlen; show rs.length ≤ _; omega) (by omega) (fun i hi => by
        have := HGd.out.rules i hi; rw [HLs.out, ← HLg.out]; exact this.2))
      have hl1 := HLg.out; have hl2 := HLs.out
      dsimp only at HIl
      rw [hl1, hl2] at HIl
      clear hl1 hl2
      generalize lockF rs k ss hs[k] = lk at *
      generalize gs[k] = g at *
      generalize ss[k] = s at *
      generalize ts[k] = t at *
      generalize hs[k] = hk2 at *
      subst ea ea2 ea3 ea4
      have HSt := hid (fun W (hW : Below w.heap.size w W) => step_any g (ps k) s t lk W hgk hsk htk (gok.own.later hW (Nat.le_refl _)))
      rw [← hmv] at HSt
      have s0 : wr.cell? ⟨b2, o2 + k * 3, none⟩ = some (.int .i64 s.pos) := by simpa using Rs 0 _ (show (stL s)[0]? = some (.int .i64 s.pos) from rfl)
      have s1 : wr.cell? ⟨b2, o2 + k * 3 + 1, none⟩ = some (.int .i64 s.charge) := Rs 1 _ rfl
      have s2 : wr.cell? ⟨b2, o2 + k * 3 + 2, none⟩ = some (.bool s.bolted) := Rs 2 _ rfl
      have t0 : wr.cell? ⟨b3, o3 + k * 4, none⟩ = some (.int .i64 t.order) := by simpa using Rt 0 _ (show (spL t)[0]? = some (.int .i64 t.order) from rfl)
      have t1 : wr.cell? ⟨b3, o3 + k * 4 + 1, none⟩ = some (.bool t.power) := Rt 1 _ rfl
      have t2 : wr.cell? ⟨b3, o3 + k * 4 + 2, none⟩ = some (.int .i64 t.outer) := Rt 2 _ rfl
      have t3 : wr.cell? ⟨b3, o3 + k * 4 + 3, none⟩ = some (.int .i64 t.inner) := Rt 3 _ rfl
      have bl : b < wr.heap.size := Nat.lt_of_lt_of_le hb hbw.size
      have sw := hbw.size
      have hkI : (k : Int) < (n : Int) := by omega
      have hk0 : (0 : Int) ≤ (k : Int) := Int.natCast_nonneg _
      have hA3 : bb < wr.heap.size ∧ w.heap.size + 1 < bb := ⟨hbbw, S2⟩
      clear hat hat2 hat3 hat4 hkg hks hkt hkh hb Rs Rt hmv gok hgk hsk htk
      go_wp2_with (first | (refine wpList_load_mid rfl 25 _ rfl b (o + k * 21) rfl (gtL g (ps k)) _ R0 Tryz.underlying25 rfl (by kernel_rfl) ?_) | (apply wpList_store_row (hg := heap_alloc_new wr _) (h1 := gtL_one g (ps k)); exact rfl; exact rfl; exact rfl; exact rfl; kernel_rfl; exact rfl))
      have RF := range_setRow (W := wr.alloc (.cells #[.string ⟨#[]⟩, .int .i64 0, .int .i64 0, .slice none 0 0, .int .i64 0, .int .i64 0, .int .i64 0, .int .i64 0, .int .i64 0, .int .i64 0, .int .i64 0, .int .i64 0, .int .i64 0, .int .i64 0, .int .i64 0, .int .i64 0, .int .i64 0, .int .i64 0, .int .i64 0, .slice none 0 0, .int .i64 0] 25)) (cs := gtL g (ps k)) (heap_alloc_new wr _)
      have BF := below_setRow (cs := (gtL g (ps k)).toArray) ((Below.refl wr.heap.size wr).alloc (Nat.le_refl _) (.cells #[.string ⟨#[]⟩, .int .i64 0, .int .i64 0, .slice none 0 0, .int .i64 0, .int .i64 0, .int .i64 0, .int .i64 0, .int .i64 0, .int .i64 0, .int .i64 0, .int .i64 0, .int .i64 0, .int .i64 0, .int .i64 0, .int .i64 0, .int .i64 0, .int .i64 0, .int .i64 0, .slice none 0 0, .int .i64 0] 25)) (Nat.le_refl _)
      have sX : wr.heap.size < (World.setRow (wr.alloc (.cells #[.string ⟨#[]⟩, .int .i64 0, .int .i64 0, .slice none 0 0, .int .i64 0, .int .i64 0, .int .i64 0, .int .i64 0, .int .i64 0, .int .i64 0, .int .i64 0, .int .i64 0, .int .i64 0, .int .i64 0, .int .i64 0, .int .i64 0, .int .i64 0, .int .i64 0, .int .i64 0, .slice none 0 0, .int .i64 0] 25)) wr.heap.size (gtL g (ps k)).toArray).heap.size := by rw [setRow_size, World.size_alloc]; omega
      simp only [Act.put, List.setIfInBounds_toArray, List.set_cons_zero, List.set_cons_succ]
      generalize World.setRow _ _ _ = F at *
      have hBF : Below w.heap.size w F := hbw.trans (BF.mono hbw.size)
      have cF : ∀ q j, q < wr.heap.size → F.cell? ⟨q, j, none⟩ = wr.cell? ⟨q, j, none⟩ := fun q j hq => BF.cell (p := ⟨q, j, none⟩) hq
      have fF : ∀ q j, q < wr.heap.size → F.frozen? ⟨q, j, none⟩ = wr.frozen? ⟨q, j, none⟩ := fun q j hq => BF.frozen (p := ⟨q, j, none⟩) hq
      replace s0 := (cF _ _ (by omega)).trans s0
      replace s1 := (cF _ _ (by omega)).trans s1
      replace s2 := (cF _ _ (by omega)).trans s2
      replace t0 := (cF _ _ (by omega)).trans t0
      replace t1 := (cF _ _ (by omega)).trans t1
      replace t2 := (cF _ _ (by omega)).trans t2
      replace t3 := (cF _ _ (by omega)).trans t3
      replace h0 := (cF _ _ (by omega)).trans h0
      have z0 := (cF _ _ (by omega)).trans u0'
      have z1 := (cF _ _ (by omega)).trans u1'
      have a0 : ∃ v, F.cell? ⟨w.heap.size + 1, k * 3, none⟩ = some v := by rw [cF _ _ (by omega)]; exact HI.out.xa _ (by omega)
      have a1 : ∃ v, F.cell? ⟨w.heap.size + 1, k * 3 + 1, none⟩ = some v := by rw [cF _ _ (by omega)]; exact HI.out.xa _ (by omega)
      have a2 : ∃ v, F.cell? ⟨w.heap.size + 1, k * 3 + 2, none⟩ = some v := by rw [cF _ _ (by omega)]; exact HI.out.xa _ (by omega)
      have e0 : ∃ v, F.cell? ⟨bb, k * 3, none⟩ = some v := by rw [cF _ _ (by omega)]; exact HI.out.xb _ (by omega)
      have e1 : ∃ v, F.cell? ⟨bb, k * 3 + 1, none⟩ = some v := by rw [cF _ _ (by omega)]; exact HI.out.xb _ (by omega)
      have e2 : ∃ v, F.cell? ⟨bb, k * 3 + 2, none⟩ = some v := by rw [cF _ _ (by omega)]; exact HI.out.xb _ (by omega)
      have fa : ∀ o, F.frozen? ⟨w.heap.size + 1, o, none⟩ = false := fun o => (fF _ _ (by omega)).trans (HI.out.fa o)
      have fe : ∀ o, F.frozen? ⟨bb, o, none⟩ = false := fun o => (fF _ _ (by omega)).trans (HI.out.fb o)
      clear cF fF u0' u1' R0
      refine wp_region_noPanic ?_
      refine wp_region_held_drew (S := (fun w' => Below w.heap.size w w' ∧ w'.rangeAt wr.heap.size 0 (gtL g (ps k)) ∧ w'.cell? ⟨b2, o2 + k * 3, none⟩ = some (.int .i64 s.pos) ∧ w'.cell? ⟨b2, o2 + k * 3 + 1, none⟩ = some (.int .i64 s.charge) ∧ w'.cell? ⟨b2, o2 + k * 3 + 2, none⟩ = some (.bool s.bolted) ∧ w'.cell? ⟨b3, o3 + k * 4, none⟩ = some (.int .i64 t.order) ∧ w'.cell? ⟨b3, o3 + k * 4 + 1, none⟩ = some (.bool t.power) ∧ w'.cell? ⟨b3, o3 + k * 4 + 2, none⟩ = some (.int .i64 t.outer) ∧ w'.cell? ⟨b3, o3 + k * 4 + 3, none⟩ = some (.int .i64 t.inner) ∧ w'.cell? ⟨b4, o4 + k, none⟩ = some (.bool hk2) ∧ w'.cell? ⟨w.heap.size, 0, none⟩ = some (.slice (some ⟨b, o, none⟩) n gc) ∧ w'.cell? ⟨w.heap.size, 1, none⟩ = some (.slice ra rs.length rc) ∧ (∃ v, w'.cell? ⟨w.heap.size + 1, k * 3, none⟩ = some v) ∧ (∃ v, w'.cell? ⟨w.heap.size + 1, k * 3 + 1, none⟩ = some v) ∧ (∃ v, w'.cell? ⟨w.heap.size + 1, k * 3 + 2, none⟩ = some v) ∧ (∃ v, w'.cell? ⟨bb, k * 3, none⟩ = some v) ∧ (∃ v, w'.cell? ⟨bb, k * 3 + 1, none⟩ = some v) ∧ (∃ v, w'.cell? ⟨bb, k * 3 + 2, none⟩ = some v) ∧ (∀ o, w'.frozen? ⟨w.heap.size + 1, o, none⟩ = false) ∧ (∀ o, w'.frozen? ⟨bb, o, none⟩ = false) ∧ wr.heap.size < w'.heap.size)) (by kernel_rfl) ?_ (fun hHeld => ?_)
      · exact ⟨hBF.drew, range_drew RF, by simpa using s0, by simpa using s1, by simpa using s2, by simpa using t0, by simpa using t1, by simpa using t2, by simpa using t3, by simpa using h0, by simpa using z0, by simpa using z1, by simpa using a0, by simpa using a1, by simpa using a2, by simpa using e0, by simpa using e1, by simpa using e2, by simpa using fa, by simpa using fe, by simpa using sX⟩
      clear s0 s1 s2 t0 t1 t2 t3 h0 z0 z1 a0 a1 a2 e0 e1 e2 fa fe RF
      refine wpAnyH_take (i := 0) (oi := { dst := _, op := _, type := _, pos := _, after := _, guard := _ }) (v := ?_) rfl (by kernel_rfl) (by kernel_rfl) (by kernel_rfl) (fun _ _ _ h => h) (Or.inl ⟨by rfl, ?_⟩) (by assumption) ?_
      rotate_left
      · intro wS hSw; (try dsimp only at hSw); go_simp; try (with_reducible rfl)
      try simp only [Act.put, List.setIfInBounds_toArray, List.set_cons_zero, List.set_cons_succ]
      refine wpAnyH_take (i := 1) (oi := { dst := _, op := _, type := _, pos := _, after := _, guard := _ }) (v := ?_) rfl (by kernel_rfl) (by kernel_rfl) (by kernel_rfl) (fun _ _ _ h => h) (Or.inl ⟨by rfl, ?_⟩) (by assumption) ?_
      rotate_left
      · intro wS hSw; (try dsimp only at hSw); go_simp; try (with_reducible rfl)
      try simp only [Act.put, List.setIfInBounds_toArray, List.set_cons_zero, List.set_cons_succ]
      refine wpAnyH_take (i := 2) (oi := { dst := _, op := _, type := _, pos := _, after := _, guard := _ }) (v := ?_) rfl (by kernel_rfl) (by kernel_rfl) (by kernel_rfl) (fun _ _ _ h => h) (Or.inl ⟨by rfl, ?_⟩) (by assumption) ?_
      rotate_left
      · intro wS hSw; (try dsimp only at hSw); go_simp; try (with_reducible rfl)
      try simp only [Act.put, List.setIfInBounds_toArray, List.set_cons_zero, List.set_cons_succ]
      refine wpAnyH_take (i := 3) (oi := { dst := _, op := _, type := _, pos := _, after := _, guard := _ }) (v := ?_) rfl (by kernel_rfl) (by kernel_rfl) (by kernel_rfl) (fun _ _ _ h => h) (Or.inl ⟨by rfl, ?_⟩) (by assumption) ?_
      rotate_left
      · intro wS hSw; (try dsimp only at hSw); go_simp; try (with_reducible rfl)
      try simp only [Act.put, List.setIfInBounds_toArray, List.set_cons_zero, List.set_cons_succ]
      refine wpAnyH_take (i := 4) (oi := { dst := _, op := _, type := _, pos := _, after := _, guard := _ }) (v := .agg (gtL g (ps k)).toArray) rfl (by kernel_rfl) (by kernel_rfl) (by kernel_rfl) (fun _ _ _ h => h) (yieldsIf_load_mid (by rfl) 25 _ rfl wr.heap.size 0 rfl (gtL g (ps k)) _ (fun _ hS => hS.2.1) Tryz.underlying25 rfl (by kernel_rfl)) (by assumption) ?_
      try simp only [Act.put, List.setIfInBounds_toArray, List.set_cons_zero, List.set_cons_succ]
      refine wpAnyH_take (i := 5) (oi := { dst := _, op := _, type := _, pos := _, after := _, guard := _ }) (v := ?_) rfl (by kernel_rfl) (by kernel_rfl) (by kernel_rfl) (fun _ _ _ h => h) (Or.inl ⟨by rfl, ?_⟩) (by assumption) ?_
      rotate_left
      · intro wS hSw; (try dsimp only at hSw); go_simp; try (with_reducible rfl)
      try simp only [Act.put, List.setIfInBounds_toArray, List.set_cons_zero, List.set_cons_succ]
      refine wpAnyH_take (i := 6) (oi := { dst := _, op := _, type := _, pos := _, after := _, guard := _ }) (v := ?_) rfl (by kernel_rfl) (by kernel_rfl) (by kernel_rfl) (fun _ _ _ h => h) (Or.inl ⟨by rfl, ?_⟩) (by assumption) ?_
      rotate_left
      · intro wS hSw; (try dsimp only at hSw); go_simp; try (with_reducible rfl)
      try simp only [Act.put, List.setIfInBounds_toArray, List.set_cons_zero, List.set_cons_succ]
      refine wpAnyH_take (i := 7) (oi := { dst := _, op := _, type := _, pos := _, after := _, guard := _ }) (v := ?_) rfl (by kernel_rfl) (by kernel_rfl) (by kernel_rfl) (fun _ _ _ h => h) (Or.inl ⟨by rfl, ?_⟩) (by assumption) ?_
      rotate_left
      · intro wS hSw; (try dsimp only at hSw); go_simp; try (with_reducible rfl)
      try simp only [Act.put, List.setIfInBounds_toArray, List.set_cons_zero, List.set_cons_succ]
      refine wpAnyH_take (i := 8) (oi := { dst := _, op := _, type := _, pos := _, after := _, guard := _ }) (v := ?_) rfl (by kernel_rfl) (by kernel_rfl) (by kernel_rfl) (fun _ _ _ h => h) (Or.inl ⟨by rfl, ?_⟩) (by assumption) ?_
      rotate_left
      · intro wS hSw; (try dsimp only at hSw); go_simp; try (with_reducible rfl)
      try simp only [Act.put, List.setIfInBounds_toArray, List.set_cons_zero, List.set_cons_succ]
      refine wpAnyH_take (i := 9) (oi := { dst := _, op := _, type := _, pos := _, after := _, guard := _ }) (v := ?_) rfl (by kernel_rfl) (by kernel_rfl) (by kernel_rfl) (fun _ _ _ h => h) (Or.inl ⟨by rfl, ?_⟩) (by assumption) ?_
      rotate_left
      · intro wS hSw; (try dsimp only at hSw); go_simp; try (with_reducible rfl)
      try simp only [Act.put, List.setIfInBounds_toArray, List.set_cons_zero, List.set_cons_succ]
      refine wpAnyH_take (i := 10) (oi := { dst := _, op := _, type := _, pos := _, after := _, guard := _ }) (v := ?_) rfl (by kernel_rfl) (by kernel_rfl) (by kernel_rfl) (fun _ _ _ h => h) (Or.inl ⟨by rfl, ?_⟩) (by assumption) ?_
      rotate_left
      · intro wS hSw; (try dsimp only at hSw); go_simp; try (with_reducible rfl)
      try simp only [Act.put, List.setIfInBounds_toArray, List.set_cons_zero, List.set_cons_succ]
      refine wpAnyH_take (i := 11) (oi := { dst := _, op := _, type := _, pos := _, after := _, guard := _ }) (v := ?_) rfl (by kernel_rfl) (by kernel_rfl) (by kernel_rfl) (fun _ _ _ h => h) (Or.inl ⟨by rfl, ?_⟩) (by assumption) ?_
      rotate_left
      · intro wS hSw; (try dsimp only at hSw); go_simp; try (with_reducible rfl)
      try simp only [Act.put, List.setIfInBounds_toArray, List.set_cons_zero, List.set_cons_succ]
      refine wpAnyH_take (i := 12) (oi := { dst := _, op := _, type := _, pos := _, after := _, guard := _ }) (v := ?_) rfl (by kernel_rfl) (by kernel_rfl) (by kernel_rfl) (fun _ _ _ h => h) (Or.inl ⟨by rfl, ?_⟩) (by assumption) ?_
      rotate_left
      · intro wS hSw; (try dsimp only at hSw); go_simp; try (with_reducible rfl)
      try simp only [Act.put, List.setIfInBounds_toArray, List.set_cons_zero, List.set_cons_succ]
      refine wpAnyH_take (i := 13) (oi := { dst := _, op := _, type := _, pos := _, after := _, guard := _ }) (v := .agg (mL g (ps k) s t).toArray) rfl (by kernel_rfl) (by kernel_rfl) (by kernel_rfl) (fun _ _ _ h => h) (yieldsIf_build (by rfl) 74 _ rfl (built_machine g (ps k) s t) (by kernel_rfl)) (by assumption) ?_
      try simp only [Act.put, List.setIfInBounds_toArray, List.set_cons_zero, List.set_cons_succ]
      refine wpAnyH_take (i := 14) (oi := { dst := _, op := _, type := _, pos := _, after := _, guard := _ }) (v := ?_) rfl (by kernel_rfl) (by kernel_rfl) (by kernel_rfl) (fun _ _ _ h => h) (Or.inl ⟨by rfl, ?_⟩) (by assumption) ?_
      rotate_left
      · intro wS hSw; (try dsimp only at hSw); go_simp; try (with_reducible rfl)
      try simp only [Act.put, List.setIfInBounds_toArray, List.set_cons_zero, List.set_cons_succ]
      refine wpAnyH_take (i := 15) (oi := { dst := _, op := _, type := _, pos := _, after := _, guard := _ }) (v := ?_) rfl (by kernel_rfl) (by kernel_rfl) (by kernel_rfl) (fun _ _ _ h => h) (Or.inl ⟨by rfl, ?_⟩) (by assumption) ?_
      rotate_left
      · intro wS hSw; (try dsimp only at hSw); go_simp; try (with_reducible rfl)
      try simp only [Act.put, List.setIfInBounds_toArray, List.set_cons_zero, List.set_cons_succ]
      refine wpAnyH_take (i := 16) (oi := { dst := _, op := _, type := _, pos := _, after := _, guard := _ }) (v := ?_) rfl (by kernel_rfl) (by kernel_rfl) (by kernel_rfl) (fun _ _ _ h => h) (Or.inl ⟨by rfl, ?_⟩) (by assumption) ?_
      rotate_left
      · intro wS hSw; (try dsimp only at hSw); go_simp; try (with_reducible rfl)
      try simp only [Act.put, List.setIfInBounds_toArray, List.set_cons_zero, List.set_cons_succ]
      refine wpAnyH_take (i := 17) (oi := { dst := _, op := _, type := _, pos := _, after := _, guard := _ }) (v := ?_) rfl (by kernel_rfl) (by kernel_rfl) (by kernel_rfl) (fun _ _ _ h => h) (Or.inl ⟨by rfl, ?_⟩) (by assumption) ?_
      rotate_left
      · intro wS hSw; (try dsimp only at hSw); go_simp; try (with_reducible rfl)
      try simp only [Act.put, List.setIfInBounds_toArray, List.set_cons_zero, List.set_cons_succ]
      refine wpAnyH_take (i := 18) (oi := { dst := _, op := _, type := _, pos := _, after := _, guard := _ }) (v := ?_) rfl (by kernel_rfl) (by kernel_rfl) (by kernel_rfl) (fun _ _ _ h => h) (Or.inl ⟨by rfl, ?_⟩) (by assumption) ?_
      rotate_left
      · intro wS hSw; (try dsimp only at hSw); go_simp; try (with_reducible rfl)
      try simp only [Act.put, List.setIfInBounds_toArray, List.set_cons_zero, List.set_cons_succ]
      refine wpAnyH_take (i := 19) (oi := { dst := _, op := _, type := _, pos := _, after := _, guard := _ }) (v := ?_) rfl (by kernel_rfl) (by kernel_rfl) (by kernel_rfl) (fun _ _ _ h => h) (Or.inl ⟨by rfl, ?_⟩) (by assumption) ?_
      rotate_left
      · intro wS hSw; (try dsimp only at hSw); go_simp; try (with_reducible rfl)
      try simp only [Act.put, List.setIfInBounds_toArray, List.set_cons_zero, List.set_cons_succ]
      refine wpAnyH_take (i := 20) (oi := { dst := _, op := _, type := _, pos := _, after := _, guard := _ }) (v := ?_) rfl (by kernel_rfl) (by kernel_rfl) (by kernel_rfl) (fun _ _ _ h => h) (Or.inl ⟨by rfl, ?_⟩) (by assumption) ?_
      rotate_left
      · intro wS hSw; (try dsimp only at hSw); go_simp; try (with_reducible rfl)
      try simp only [Act.put, List.setIfInBounds_toArray, List.set_cons_zero, List.set_cons_succ]
      refine wpAnyH_ready (rs := [21]) (by kernel_rfl) (by simp) ?_
      refine AllReadyH.cons (o := { dst := _, op := _, type := _, pos := _, after := _, guard := _ }) rfl (fun K hK => ?_) AllReadyH.nil
      go_simp
      (go_at_call 88; (with_reducible refine (HIl.out _ (by assumption : Below w.heap.size w _ ∧ _ ∧ _ ∧ _ ∧ _ ∧ _ ∧ _ ∧ _ ∧ _ ∧ _ ∧ _ ∧ _ ∧ _ ∧ _ ∧ _ ∧ _ ∧ _ ∧ _ ∧ _ ∧ _ ∧ _).1).mono ?_); rintro e w' ⟨rfl, hbe1⟩)
      try go_wp2_with fail
      refine hK.out _ _ ?_ (fun hHeld => ?_)
      · (try dsimp only); exact keepMv2 hA3 (by omega) (by omega) (by omega) (by assumption) hHeld
      clear hK K
      try simp only [Act.put, List.setIfInBounds_toArray, List.set_cons_zero, List.set_cons_succ]
      refine wpAnyH_ready (rs := [22]) (by kernel_rfl) (by simp) ?_
      refine AllReadyH.cons (o := { dst := _, op := _, type := _, pos := _, after := _, guard := _ }) rfl (fun K hK => ?_) AllReadyH.nil
      go_simp
      (go_at_call 28; (with_reducible refine (HSt.out _ (by assumption : Below w.heap.size w _ ∧ _ ∧ _ ∧ _ ∧ _ ∧ _ ∧ _ ∧ _ ∧ _ ∧ _ ∧ _ ∧ _ ∧ _ ∧ _ ∧ _ ∧ _ ∧ _ ∧ _ ∧ _ ∧ _ ∧ _).1).mono ?_); rintro e w' ⟨rfl, hbe2⟩)
      try go_wp2_with fail
      refine hK.out _ _ ?_ (fun hHeld => ?_)
      · (try dsimp only); exact keepMv2 hA3 (by omega) (by omega) (by omega) (by assumption) hHeld
      clear hK K
      try simp only [Act.put, List.setIfInBounds_toArray, List.set_cons_zero, List.set_cons_succ]
      refine wpAnyH_take (i := 23) (oi := { dst := _, op := _, type := _, pos := _, after := _, guard := _ }) (v := ?_) rfl (by kernel_rfl) (by kernel_rfl) (by kernel_rfl) (fun _ _ _ h => h) (Or.inl ⟨by rfl, ?_⟩) (by assumption) ?_
      rotate_left
      · intro wS hSw; (try dsimp only at hSw); go_simp; try (with_reducible rfl)
      try simp only [Act.put, List.setIfInBounds_toArray, List.set_cons_zero, List.set_cons_succ]
      refine wpAnyH_take (i := 24) (oi := { dst := _, op := _, type := _, pos := _, after := _, guard := _ }) (v := ?_) rfl (by kernel_rfl) (by kernel_rfl) (by kernel_rfl) (fun _ _ _ h => h) (Or.inl ⟨by rfl, ?_⟩) (by assumption) ?_
      rotate_left
      · intro wS hSw; (try dsimp only at hSw); go_simp; try (with_reducible rfl)
      try simp only [Act.put, List.setIfInBounds_toArray, List.set_cons_zero, List.set_cons_succ]
      refine wpAnyH_take (i := 25) (oi := { dst := _, op := _, type := _, pos := _, after := _, guard := _ }) (v := ?_) rfl (by kernel_rfl) (by kernel_rfl) (by kernel_rfl) (fun _ _ _ h => h) (Or.inl ⟨by rfl, ?_⟩) (by assumption) ?_
      rotate_left
      · intro wS hSw; (try dsimp only at hSw); go_simp; try (with_reducible rfl)
      try simp only [Act.put, List.setIfInBounds_toArray, List.set_cons_zero, List.set_cons_succ]
      refine wpAnyH_take (i := 26) (oi := { dst := _, op := _, type := _, pos := _, after := _, guard := _ }) (v := ?_) rfl (by kernel_rfl) (by kernel_rfl) (by kernel_rfl) (fun _ _ _ h => h) (Or.inl ⟨by rfl, ?_⟩) (by assumption) ?_
      rotate_left
      · intro wS hSw; (try dsimp only at hSw); go_simp; try (with_reducible rfl)
      try simp only [Act.put, List.setIfInBounds_toArray, List.set_cons_zero, List.set_cons_succ]
      have hwU := (BF.drew.trans (hbe1.mono BF.drew.size)).trans (hbe2.mono (Nat.le_trans BF.drew.size hbe1.size))
      have hInv := hid (MvInv.next HI.out (show w.heap.size + 1 ≠ bb by omega) (by omega) (by omega) hwU hlt)
      obtain ⟨-, -, -, -, -, -, -, -, -, -, -, -, ⟨p0, q0⟩, ⟨p1, q1⟩, ⟨p2, q2⟩, ⟨p3, q3⟩, ⟨p4, q4⟩, ⟨p5, q5⟩, g1, g2, -⟩ := (by assumption : Below w.heap.size w _ ∧ _ ∧ _ ∧ _ ∧ _ ∧ _ ∧ _ ∧ _ ∧ _ ∧ _ ∧ _ ∧ _ ∧ _ ∧ _ ∧ _ ∧ _ ∧ _ ∧ _ ∧ _ ∧ _ ∧ _)
      refine wpAnyH_ready (rs := [27]) (by kernel_rfl) (by simp) ?_
      refine AllReadyH.cons (o := { dst := _, op := _, type := _, pos := _, after := _, guard := _ }) rfl (fun K hK => ?_) AllReadyH.nil
      go_simp
      refine hK.out _ _ ?_ (fun hHeld => ?_)
      · (try dsimp only); exact keepMvS (C := w.heap.size + 1) (.inl rfl) hA3 hb2 hb3 hb4 hHeld
      clear hK K
      clear q0 q1 q2 q3 q4 q5 g1 g2
      try simp only [Act.put, List.setIfInBounds_toArray, List.set_cons_zero, List.set_cons_succ]
      refine wpAnyH_take (i := 28) (oi := { dst := _, op := _, type := _, pos := _, after := _, guard := _ }) (v := ?_) rfl (by kernel_rfl) (by kernel_rfl) (by kernel_rfl) (fun _ _ _ h => h) (Or.inl ⟨by rfl, ?_⟩) (by assumption) ?_
      rotate_left
      · intro wS hSw; (try dsimp only at hSw); go_simp; try (with_reducible rfl)
      try simp only [Act.put, List.setIfInBounds_toArray, List.set_cons_zero, List.set_cons_succ]
      obtain ⟨-, -, -, -, -, -, -, -, -, -, -, -, ⟨p0, q0⟩, ⟨p1, q1⟩, ⟨p2, q2⟩, ⟨p3, q3⟩, ⟨p4, q4⟩, ⟨p5, q5⟩, g1, g2, -⟩ := (by assumption : Below w.heap.size w _ ∧ _ ∧ _ ∧ _ ∧ _ ∧ _ ∧ _ ∧ _ ∧ _ ∧ _ ∧ _ ∧ _ ∧ _ ∧ _ ∧ _ ∧ _ ∧ _ ∧ _ ∧ _ ∧ _ ∧ _)
      refine wpAnyH_ready (rs := [29]) (by kernel_rfl) (by simp) ?_
      refine AllReadyH.cons (o := { dst := _, op := _, type := _, pos := _, after := _, guard := _ }) rfl (fun K hK => ?_) AllReadyH.nil
      go_simp
      refine hK.out _ _ ?_ (fun hHeld => ?_)
      · (try dsimp only); exact keepMvS (C := bb) (.inr rfl) hA3 hb2 hb3 hb4 hHeld
      clear hK K
      clear q0 q1 q2 q3 q4 q5 g1 g2
      try simp only [Act.put, List.setIfInBounds_toArray, List.set_cons_zero, List.set_cons_succ]
      refine wpAnyH_done (by kernel_rfl) ?_ _
      refine NoPanic.normal ?_

      have hB9 : Below w.heap.size w _ := hHeld.1
      have hS9 := hHeld.2.2.2.2.2.2.2.2.2.2.2.2.2.2.2.2.2.2.2.2
      have hz0 := hHeld.2.2.2.2.2.2.2.2.2.2.1
      have hz1 := hHeld.2.2.2.2.2.2.2.2.2.2.2.1
      clear hHeld
      generalize World.setCell (World.setCell (World.setCell (World.setCell (World.setCell (World.setCell _ _ _) _ _) _ _) _ _) _ _) _ _ = G at *
      have HZ0 := hid hz0
      have HZ1 := hid hz1
      clear hz0 hz1
      go_wp2_with fail
      go_roundw
      case rel => exact ⟨k + 1, by omega, by go_num, hInv, hB9, by omega, HZ0.out, HZ1.out⟩
      case measure => simp [intOf]; omega
    · have hkl : k = n := by omega
      subst hkl
      go_wp2_with fail
      refine bodyPost_ret (v := .tuple #[.slice (some ⟨w.heap.size + 1, 0, none⟩) k k, .slice (some ⟨bb, 0, none⟩) k k]) (by simp [results, Tryz.results55, go_sem]) rfl ⟨_, _, rfl, ⟨by omega, hbbw⟩, HI.out.ra, HI.out.rb, hbw⟩
end Go.Proofs.YtdoklolinbmhpaaGreat
