/- Gate, part LX: the walk of GateLatest. -/
import Derived.Test.YtpgggffcpcjahaaLA
import Derived.Test.YtpgggffcpcjahaaLT
import Derived.Test.YtpgggffcpcjahaaYH
import Derived.Lib.MinMax
set_option linter.all false
namespace Go.Proofs.Ytpgggffcpcjahaa
open Go.RowKit

/-- The set and the sides, in memory. -/
structure LxW (w : World) (ga : Option Addr) (n gc : Nat) (o i : Int) (pw : Bool) (x : World) : Prop where
  below : Below w.heap.size w x
  lt : w.heap.size + 1 < x.heap.size
  z0 : x.cell? ⟨w.heap.size, 0, none⟩ = some (.slice ga n gc)
  x0 : x.cell? ⟨w.heap.size + 1, 0, none⟩ = some (.int .i64 o)
  x1 : x.cell? ⟨w.heap.size + 1, 1, none⟩ = some (.int .i64 i)
  x2 : x.cell? ⟨w.heap.size + 1, 2, none⟩ = some (.bool pw)
theorem LxW.later {w x y : World} {ga : Option Addr} {n gc : Nat} {o i : Int} {pw : Bool} (h : LxW w ga n gc o i pw x) (hb : Below x.heap.size x y) : LxW w ga n gc o i pw y := by
  have hl := h.lt
  have c : ∀ q j, q < x.heap.size → y.cell? ⟨q, j, none⟩ = x.cell? ⟨q, j, none⟩ := fun q j hq => hb.cell (p := ⟨q, j, none⟩) hq
  exact ⟨bthen h.below hb, Nat.lt_of_lt_of_le hl hb.size, (c _ _ (by omega)).trans h.z0, (c _ _ (by omega)).trans h.x0, (c _ _ (by omega)).trans h.x1, (c _ _ (by omega)).trans h.x2⟩
theorem keepLx {w x y : World} {g : Gt} {p : GtP} {j b o1 b2 o2 A n gc : Nat} {s : St} {o i : Int} {pw : Bool} (hA : b < w.heap.size ∧ b2 < w.heap.size ∧ A + 1 < w.heap.size) (hxy : Below x.heap.size x y) (h : Below w.heap.size w x ∧ x.rangeAt b (o1 + j * 21) (gtL g p) ∧ x.cell? ⟨b2, o2 + j * 3, none⟩ = some (.int .i64 s.pos) ∧ x.cell? ⟨b2, o2 + j * 3 + 1, none⟩ = some (.int .i64 s.charge) ∧ x.cell? ⟨b2, o2 + j * 3 + 2, none⟩ = some (.bool s.bolted) ∧ x.cell? ⟨A, 0, none⟩ = some (.slice (some ⟨b, o1, none⟩) n gc) ∧ x.cell? ⟨A + 1, 0, none⟩ = some (.int .i64 o) ∧ x.cell? ⟨A + 1, 1, none⟩ = some (.int .i64 i) ∧ x.cell? ⟨A + 1, 2, none⟩ = some (.bool pw)) : Below w.heap.size w y ∧ y.rangeAt b (o1 + j * 21) (gtL g p) ∧ y.cell? ⟨b2, o2 + j * 3, none⟩ = some (.int .i64 s.pos) ∧ y.cell? ⟨b2, o2 + j * 3 + 1, none⟩ = some (.int .i64 s.charge) ∧ y.cell? ⟨b2, o2 + j * 3 + 2, none⟩ = some (.bool s.bolted) ∧ y.cell? ⟨A, 0, none⟩ = some (.slice (some ⟨b, o1, none⟩) n gc) ∧ y.cell? ⟨A + 1, 0, none⟩ = some (.int .i64 o) ∧ y.cell? ⟨A + 1, 1, none⟩ = some (.int .i64 i) ∧ y.cell? ⟨A + 1, 2, none⟩ = some (.bool pw) := by
  obtain ⟨below, rows, s0, s1, s2, z0, x0, x1, x2⟩ := h
  have hs := below.size
  have c : ∀ q j, q < w.heap.size → y.cell? ⟨q, j, none⟩ = x.cell? ⟨q, j, none⟩ := fun q j hq => hxy.cell (p := ⟨q, j, none⟩) (by show q < x.heap.size; omega)
  exact ⟨below.trans (hxy.mono hs), range_later rows hxy (by omega), (c _ _ (by omega)).trans s0, (c _ _ (by omega)).trans s1, (c _ _ (by omega)).trans s2, (c _ _ (by omega)).trans z0, (c _ _ (by omega)).trans x0, (c _ _ (by omega)).trans x1, (c _ _ (by omega)).trans x2⟩
theorem up_ten (k : Nat) : upq (k : Int) 10 = ((k : Int) + 9).tdiv 10 := by
  rw [Int.tdiv_eq_ediv_of_nonneg (by omega)]
  unfold upq
  omega
theorem LxW.start (w : World) (ga ra : Option Addr) (n gc rl rc : Nat) (o i : Int) (pw : Bool) : LxW w ga n gc o i pw (((w.alloc (.cells #[.slice ga n gc, .slice ra rl rc] 25)).alloc (.cells #[.int .i64 o, .int .i64 i, .bool pw] 69)).alloc (.cells #[.slice ga n gc, .slice none 0 0] 25)) :=
  ⟨(((Below.refl _ _).alloc (Nat.le_refl _) _).alloc (by simp) _).alloc (by simp <;> omega) _, by simp, by simp [go_sem], by simp [go_sem], by simp [go_sem], by simp [go_sem]⟩
/-- Delay of the set without its rules. -/
theorem delay_free (ga sa : Option Addr) (gs : List Gt) (ss : List St) (gc sc n ns : Nat) (ps : Nat → GtP) (o i : Int) (pw : Bool) (w : World) (hn : gs.length = n) (hns : ss.length = ns) (hg : GatesOk w ga gs ps) (hgl : gs.length ≤ gc ∧ gs.length ≤ 140737488355328) (hss : RowsL (fun _ s => stL s) 3 w sa ss) :
    Calls Try.prog 36 #[.agg #[.slice ga n gc, .slice none 0 0], .slice sa ns sc, .int .i64 o, .int .i64 i, .bool pw] w fun e w' => (∃ a b : Int, e = .returned (.tuple #[.int .i64 a, .int .i64 b]) ∧ ((ns ≠ n ∧ b ≠ 0) ∨ (ns = n ∧ delayP gs [] ss o i pw = (a, b)))) ∧ Below w.heap.size w w' := by
  have hok : SetOk w ⟨ga, gs, gc, ps, none, [], 0⟩ := ⟨hg, hgl, .inl rfl, ⟨Nat.le_refl _, Nat.zero_le _⟩, fun r hr => by cases hr⟩
  by_cases h : ns = n
  · rw [h] at hns ⊢
    refine (delayEq_any ga sa none gs [] ss gc sc 0 n ps o i pw w hn hok hss hns).mono ?_
    rintro e w' ⟨he, hb⟩
    exact ⟨⟨_, _, he, .inr ⟨rfl, rfl⟩⟩, hb⟩
  · refine (delayNe_any ga sa none gs [] gc sc 0 n ps o i pw w hn hok ns h).mono ?_
    rintro e w' ⟨⟨x, hx, he⟩, hb⟩
    exact ⟨⟨_, _, he, .inl ⟨h, hx⟩⟩, hb⟩
set_option maxRecDepth 100000 in
set_option maxHeartbeats 8000000 in
theorem lawLatest_any (z : SetV) (sa : Option Addr) (ss : List St) (sc : Nat) (o i : Int) (pw : Bool) (w : World) (hok : SetOk w z) (hss : RowsL (fun _ s => stL s) 3 w sa ss) (hsl : ss.length ≤ 140737488355328) :
    Calls Try.prog 13 #[.agg #[.slice z.ga z.gs.length z.gc, .slice z.ra z.rs.length z.rc], .slice sa ss.length sc, .agg #[.int .i64 o, .int .i64 i, .bool pw]] w fun e w' => e = .returned (.bool true) ∧ Below w.heap.size w w' := by
  obtain ⟨ga, gs, gc, ps, ra, rs, rc⟩ := z
  dsimp only
  have HG := hid hok.gates
  have HGl := hid hok.glen
  dsimp only at HG HGl
  have HS := hid hss
  obtain ⟨n, hn⟩ : ∃ n, gs.length = n := ⟨_, rfl⟩
  obtain ⟨ns, hns⟩ : ∃ ns, ss.length = ns := ⟨_, rfl⟩
  generalize rs.length = rl at *
  rw [hn, hns]
  have hn47 : n ≤ 140737488355328 := by have := HGl.out.2; omega
  rw [hns] at hsl
  have HN := hid hn
  have HNs := hid hns
  have HD := hid (fun W (hW : Below w.heap.size w W) => delay_free ga sa gs ss gc sc n ns ps o i pw W HN.out HNs.out (HG.out.later hW (Nat.le_refl _)) HGl.out (HS.out.later hW (Nat.le_refl _)))
  clear hok hss hn hns
  go_enter Try.func13, Try.ntmps13
  go_wp2_with fail
  refine (HD.out _ (LxW.start w ga ra n gc rl rc o i pw).below).mono ?_
  rintro e w1 ⟨⟨a, er, rfl, hP⟩, hb⟩
  have H1 := hid ((LxW.start w ga ra n gc rl rc o i pw).later hb)
  have z0 := H1.out.z0
  have l1 := H1.out.lt
  have l0 : w.heap.size < w1.heap.size := by omega
  have HP := hid hP
  clear hb hP HD
  by_cases h9 : er = 9
  · have c1 : (er == 9) = true := by simp [h9]
    have c2 : (er != 0) = true := by simp [h9]
    clear h9
    go_wp2_with fail
    refine (awake_any _).mono ?_
    rintro e w9 ⟨rfl, hb9⟩
    go_wp2_with fail
    go_ret
    exact ⟨rfl, bthen H1.out.below hb9⟩
  by_cases hne : ns = n
  · by_cases h0 : er = 0
    · have hdel : delayP gs [] ss o i pw = (a, er) := by
        rcases HP.out with h | h
        · exact absurd hne h.1
        · exact h.2
      subst h0
      subst hne
      obtain ⟨k, hk, hka, hn6, hti, hmx⟩ := delay_times (gs := gs) (ss := ss) (o := o) (i := i) (p := pw) (by rw [HN.out, HNs.out]) (by rw [hdel])
      rw [hdel] at hka
      dsimp only at hka
      rw [HN.out] at hn6 hti hmx
      rw [up_ten] at hka
      have HTi := hid hti
      have HMx := hid hmx
      have HKa := hid hka
      clear h9 HP hdel hka hti hmx
      have c1 : ((0 : Int) == 9) = false := by decide
      have c3 : ((ns : Int) != (ns : Int)) = false := by simp
      have c2 : ((0 : Int) != 0) = false := by decide
      go_wp2_with fail
      go_loopw [10, 11] (fun mv jv wr => ∃ j M : Nat, j ≤ ns ∧ mv = .int .i64 M ∧ jv = .int .i64 j ∧ Hid (M ≤ k ∧ ∀ i', i' < j → ∀ m : Nat, timeP (gs.getD i' default) (ss.getD i' default) o i pw = ((m : Int), 0) → m ≤ M) ∧ Hid (Below w1.heap.size w1 wr)) (fun _ jv _ => ns - (intOf jv).toNat)
      case atStart => exact ⟨0, 0, Nat.zero_le _, rfl, rfl, hid ⟨Nat.zero_le _, fun i' h => absurd h (Nat.not_lt_zero _)⟩, hid (Below.refl _ _)⟩
      case round =>
        obtain ⟨j, M, hj, rfl, rfl, HM, hbw⟩ := hrel
        have H2 := hid (H1.out.later hbw.out)
        by_cases hlt : j < ns
        · obtain ⟨m, hmk, hm⟩ := HTi.out j hlt
          have hjg : j < gs.length := by rw [HN.out]; exact hlt
          have hjs : j < ss.length := by rw [HNs.out]; exact hlt
          obtain ⟨b, o1, rfl, hb, hat⟩ := HG.out.at_.row (by omega)
          obtain ⟨b2, o2, rfl, hb2, hat2⟩ := HS.out.row (by omega)
          have rows := range_later (hat j hjg) H2.out.below hb
          have Rs := range_later (hat2 j hjs) H2.out.below hb2
          have HGj := hid ((HG.out.ok j hjg).later H2.out.below (Nat.le_refl _))
          have HM2 := hid (show timeP (gs.getD j default) (ss.getD j default) o i pw = ((m : Int), 0) from hm)
          rw [show gs.getD j default = gs[j] by simp [List.getD, hjg], show ss.getD j default = ss[j] by simp [List.getD, hjs]] at hm
          generalize gs[j] = g at *
          generalize ss[j] = s at *
          obtain ⟨p, hp⟩ : ∃ p, ps j = p := ⟨_, rfl⟩
          rw [hp] at rows HGj
          have HT := hid (fun W (hW : Below wr.heap.size wr W) => time_any g p s o i pw W (HGj.out.later hW (Nat.le_refl _)))
          rw [hm] at HT
          dsimp only at HT
          have s0 : wr.cell? ⟨b2, o2 + j * 3, none⟩ = some (.int .i64 s.pos) := by simpa using Rs 0 _ (show (stL s)[0]? = some (.int .i64 s.pos) from rfl)
          have s1 : wr.cell? ⟨b2, o2 + j * 3 + 1, none⟩ = some (.int .i64 s.charge) := Rs 1 _ rfl
          have s2 : wr.cell? ⟨b2, o2 + j * 3 + 2, none⟩ = some (.bool s.bolted) := Rs 2 _ rfl
          have z0 := H2.out.z0
          have x0 := H2.out.x0
          have x1 := H2.out.x1
          have x2 := H2.out.x2
          have hA : b < wr.heap.size ∧ b2 < wr.heap.size ∧ w.heap.size + 1 < wr.heap.size := by
            have h1 := H2.out.below.size
            have h2 := H2.out.lt
            exact ⟨by omega, by omega, h2⟩
          have hjI : (j : Int) < (ns : Int) := by omega
          have hj0 : (0 : Int) ≤ (j : Int) := Int.natCast_nonneg _
          clear hat hat2 Rs hm hp hjg hjs hb hb2
          go_wp2_with fail
          refine wp_region_noPanic ?_
          refine wp_region_held_drew (S := (fun w' => Below wr.heap.size wr w' ∧ w'.rangeAt b (o1 + j * 21) (gtL g p) ∧ w'.cell? ⟨b2, o2 + j * 3, none⟩ = some (.int .i64 s.pos) ∧ w'.cell? ⟨b2, o2 + j * 3 + 1, none⟩ = some (.int .i64 s.charge) ∧ w'.cell? ⟨b2, o2 + j * 3 + 2, none⟩ = some (.bool s.bolted) ∧ w'.cell? ⟨w.heap.size, 0, none⟩ = some (.slice (some ⟨b, o1, none⟩) ns gc) ∧ w'.cell? ⟨w.heap.size + 1, 0, none⟩ = some (.int .i64 o) ∧ w'.cell? ⟨w.heap.size + 1, 1, none⟩ = some (.int .i64 i) ∧ w'.cell? ⟨w.heap.size + 1, 2, none⟩ = some (.bool pw))) (by kernel_rfl) ?_ (fun hHeld => ?_)
          · exact ⟨(Below.refl _ _).drew, fun j v hv => by simpa using rows j v hv, by simpa using s0, by simpa using s1, by simpa using s2, by simpa using z0, by simpa using x0, by simpa using x1, by simpa using x2⟩
          refine wpAnyH_take (i := 0) (oi := { dst := _, op := _, type := _, pos := _, after := _, guard := _ }) (v := ?_) rfl (by kernel_rfl) (by kernel_rfl) (by kernel_rfl) (fun _ _ _ h => h) (Or.inl ⟨by rfl, ?_⟩) (by assumption) ?_
          rotate_left
          · intro wS hSw; (try dsimp only at hSw); go_simp; try (with_reducible rfl)
          try simp only [Act.put, List.setIfInBounds_toArray, List.set_cons_zero, List.set_cons_succ]
          refine wpAnyH_take (i := 1) (oi := { dst := _, op := _, type := _, pos := _, after := _, guard := _ }) (v := ?_) rfl (by kernel_rfl) (by kernel_rfl) (by kernel_rfl) (fun _ _ _ h => h) (Or.inl ⟨by rfl, ?_⟩) (by assumption) ?_
          rotate_left
          · intro wS hSw; (try dsimp only at hSw); go_simp; try (with_reducible rfl)
          try simp only [Act.put, List.setIfInBounds_toArray, List.set_cons_zero, List.set_cons_succ]
          refine wpAnyH_take (i := 2) (oi := { dst := _, op := _, type := _, pos := _, after := _, guard := _ }) (v := ?_) rfl (by kernel_rfl) (by kernel_rfl) (by kernel_rfl) (fun _ _ _ h => h) (Or.inl ⟨by rfl, ?_⟩) (by assumption) ?_
          rotate_left
          · intro wS hSw; (try dsimp only at hSw); go_simp; try (with_reducible rfl)
          try simp only [Act.put, List.setIfInBounds_toArray, List.set_cons_zero, List.set_cons_succ]
          refine wpAnyH_take (i := 3) (oi := { dst := _, op := _, type := _, pos := _, after := _, guard := _ }) (v := ?_) rfl (by kernel_rfl) (by kernel_rfl) (by kernel_rfl) (fun _ _ _ h => h) (Or.inl ⟨by rfl, ?_⟩) (by assumption) ?_
          rotate_left
          · intro wS hSw; (try dsimp only at hSw); go_simp; try (with_reducible rfl)
          try simp only [Act.put, List.setIfInBounds_toArray, List.set_cons_zero, List.set_cons_succ]
          refine wpAnyH_take (i := 4) (oi := { dst := _, op := _, type := _, pos := _, after := _, guard := _ }) (v := .agg (gtL g p).toArray) rfl (by kernel_rfl) (by kernel_rfl) (by kernel_rfl) (fun _ _ _ h => h) (yieldsIf_load_mid (by rfl) 33 _ rfl b (o1 + j * 21) rfl (gtL g p) _ (fun _ hS => hS.2.1) Try.underlying33 rfl (by kernel_rfl)) (by assumption) ?_
          try simp only [Act.put, List.setIfInBounds_toArray, List.set_cons_zero, List.set_cons_succ]
          refine wpAnyH_take (i := 5) (oi := { dst := _, op := _, type := _, pos := _, after := _, guard := _ }) (v := ?_) rfl (by kernel_rfl) (by kernel_rfl) (by kernel_rfl) (fun _ _ _ h => h) (Or.inl ⟨by rfl, ?_⟩) (by assumption) ?_
          rotate_left
          · intro wS hSw; (try dsimp only at hSw); go_simp; try (with_reducible rfl)
          try simp only [Act.put, List.setIfInBounds_toArray, List.set_cons_zero, List.set_cons_succ]
          refine wpAnyH_take (i := 6) (oi := { dst := _, op := _, type := _, pos := _, after := _, guard := _ }) (v := ?_) rfl (by kernel_rfl) (by kernel_rfl) (by kernel_rfl) (fun _ _ _ h => h) (Or.inl ⟨by rfl, ?_⟩) (by assumption) ?_
          rotate_left
          · intro wS hSw; (try dsimp only at hSw); go_simp; try (with_reducible rfl)
          try simp only [Act.put, List.setIfInBounds_toArray, List.set_cons_zero, List.set_cons_succ]
          refine wpAnyH_take (i := 7) (oi := { dst := _, op := _, type := _, pos := _, after := _, guard := _ }) (v := ?_) rfl (by kernel_rfl) (by kernel_rfl) (by kernel_rfl) (fun _ _ _ h => h) (Or.inl ⟨by rfl, ?_⟩) (by assumption) ?_
          rotate_left
          · intro wS hSw; (try dsimp only at hSw); go_simp; try (with_reducible rfl)
          try simp only [Act.put, List.setIfInBounds_toArray, List.set_cons_zero, List.set_cons_succ]
          refine wpAnyH_take (i := 8) (oi := { dst := _, op := _, type := _, pos := _, after := _, guard := _ }) (v := ?_) rfl (by kernel_rfl) (by kernel_rfl) (by kernel_rfl) (fun _ _ _ h => h) (Or.inl ⟨by rfl, ?_⟩) (by assumption) ?_
          rotate_left
          · intro wS hSw; (try dsimp only at hSw); go_simp; try (with_reducible rfl)
          try simp only [Act.put, List.setIfInBounds_toArray, List.set_cons_zero, List.set_cons_succ]
          refine wpAnyH_take (i := 9) (oi := { dst := _, op := _, type := _, pos := _, after := _, guard := _ }) (v := ?_) rfl (by kernel_rfl) (by kernel_rfl) (by kernel_rfl) (fun _ _ _ h => h) (Or.inl ⟨by rfl, ?_⟩) (by assumption) ?_
          rotate_left
          · intro wS hSw; (try dsimp only at hSw); go_simp; try (with_reducible rfl)
          try simp only [Act.put, List.setIfInBounds_toArray, List.set_cons_zero, List.set_cons_succ]
          refine wpAnyH_take (i := 10) (oi := { dst := _, op := _, type := _, pos := _, after := _, guard := _ }) (v := ?_) rfl (by kernel_rfl) (by kernel_rfl) (by kernel_rfl) (fun _ _ _ h => h) (Or.inl ⟨by rfl, ?_⟩) (by assumption) ?_
          rotate_left
          · intro wS hSw; (try dsimp only at hSw); go_simp; try (with_reducible rfl)
          try simp only [Act.put, List.setIfInBounds_toArray, List.set_cons_zero, List.set_cons_succ]
          refine wpAnyH_take (i := 11) (oi := { dst := _, op := _, type := _, pos := _, after := _, guard := _ }) (v := ?_) rfl (by kernel_rfl) (by kernel_rfl) (by kernel_rfl) (fun _ _ _ h => h) (Or.inl ⟨by rfl, ?_⟩) (by assumption) ?_
          rotate_left
          · intro wS hSw; (try dsimp only at hSw); go_simp; try (with_reducible rfl)
          try simp only [Act.put, List.setIfInBounds_toArray, List.set_cons_zero, List.set_cons_succ]
          refine wpAnyH_take (i := 12) (oi := { dst := _, op := _, type := _, pos := _, after := _, guard := _ }) (v := ?_) rfl (by kernel_rfl) (by kernel_rfl) (by kernel_rfl) (fun _ _ _ h => h) (Or.inl ⟨by rfl, ?_⟩) (by assumption) ?_
          rotate_left
          · intro wS hSw; (try dsimp only at hSw); go_simp; try (with_reducible rfl)
          try simp only [Act.put, List.setIfInBounds_toArray, List.set_cons_zero, List.set_cons_succ]
          refine wpAnyH_take (i := 13) (oi := { dst := _, op := _, type := _, pos := _, after := _, guard := _ }) (v := ?_) rfl (by kernel_rfl) (by kernel_rfl) (by kernel_rfl) (fun _ _ _ h => h) (Or.inl ⟨by rfl, ?_⟩) (by assumption) ?_
          rotate_left
          · intro wS hSw; (try dsimp only at hSw); go_simp; try (with_reducible rfl)
          try simp only [Act.put, List.setIfInBounds_toArray, List.set_cons_zero, List.set_cons_succ]
          refine wpAnyH_take (i := 14) (oi := { dst := _, op := _, type := _, pos := _, after := _, guard := _ }) (v := ?_) rfl (by kernel_rfl) (by kernel_rfl) (by kernel_rfl) (fun _ _ _ h => h) (Or.inl ⟨by rfl, ?_⟩) (by assumption) ?_
          rotate_left
          · intro wS hSw; (try dsimp only at hSw); go_simp; try (with_reducible rfl)
          try simp only [Act.put, List.setIfInBounds_toArray, List.set_cons_zero, List.set_cons_succ]
          refine wpAnyH_ready (rs := [15]) (by kernel_rfl) (by simp) ?_
          refine AllReadyH.cons (o := { dst := _, op := _, type := _, pos := _, after := _, guard := _ }) rfl (fun K hK => ?_) AllReadyH.nil
          go_simp
          (go_at_call 25; have hSc := (by assumption : Below wr.heap.size wr _ ∧ _ ∧ _ ∧ _ ∧ _ ∧ _ ∧ _ ∧ _ ∧ _); (with_reducible refine (HT.out _ hSc.1).mono ?_); clear hSc; rintro e w' ⟨rfl, hbe⟩)
          try go_wp2_with fail
          refine hK.out _ _ ?_ (fun hHeld => ?_)
          · (try dsimp only); exact keepLx hA (by assumption) hHeld
          clear hK K
          try simp only [Act.put, List.setIfInBounds_toArray, List.set_cons_zero, List.set_cons_succ]
          refine wpAnyH_take (i := 16) (oi := { dst := _, op := _, type := _, pos := _, after := _, guard := _ }) (v := ?_) rfl (by kernel_rfl) (by kernel_rfl) (by kernel_rfl) (fun _ _ _ h => h) (Or.inl ⟨by rfl, ?_⟩) (by assumption) ?_
          rotate_left
          · intro wS hSw; (try dsimp only at hSw); go_simp; try (with_reducible rfl)
          try simp only [Act.put, List.setIfInBounds_toArray, List.set_cons_zero, List.set_cons_succ]
          refine wpAnyH_take (i := 17) (oi := { dst := _, op := _, type := _, pos := _, after := _, guard := _ }) (v := ?_) rfl (by kernel_rfl) (by kernel_rfl) (by kernel_rfl) (fun _ _ _ h => h) (Or.inl ⟨by rfl, ?_⟩) (by assumption) ?_
          rotate_left
          · intro wS hSw; (try dsimp only at hSw); go_simp; try (with_reducible rfl)
          try simp only [Act.put, List.setIfInBounds_toArray, List.set_cons_zero, List.set_cons_succ]
          refine wpAnyH_take (i := 18) (oi := { dst := _, op := _, type := _, pos := _, after := _, guard := _ }) (v := ?_) rfl (by kernel_rfl) (by kernel_rfl) (by kernel_rfl) (fun _ _ _ h => h) (Or.inl ⟨by rfl, ?_⟩) (by assumption) ?_
          rotate_left
          · intro wS hSw; (try dsimp only at hSw); go_simp; try (with_reducible rfl)
          try simp only [Act.put, List.setIfInBounds_toArray, List.set_cons_zero, List.set_cons_succ]
          refine wpAnyH_take (i := 19) (oi := { dst := _, op := _, type := _, pos := _, after := _, guard := _ }) (v := ?_) rfl (by kernel_rfl) (by kernel_rfl) (by kernel_rfl) (fun _ _ _ h => h) (Or.inl ⟨by rfl, ?_⟩) (by assumption) ?_
          rotate_left
          · intro wS hSw; (try dsimp only at hSw); go_simp; try (with_reducible rfl)
          try simp only [Act.put, List.setIfInBounds_toArray, List.set_cons_zero, List.set_cons_succ]
          refine wpAnyH_take (i := 20) (oi := { dst := _, op := _, type := _, pos := _, after := _, guard := _ }) (v := ?_) rfl (by kernel_rfl) (by kernel_rfl) (by kernel_rfl) (fun _ _ _ h => h) (Or.inl ⟨by rfl, ?_⟩) (by assumption) ?_
          rotate_left
          · intro wS hSw; (try dsimp only at hSw); go_simp; try (with_reducible rfl)
          try simp only [Act.put, List.setIfInBounds_toArray, List.set_cons_zero, List.set_cons_succ]
          refine wpAnyH_done (by kernel_rfl) ?_ _
          refine NoPanic.normal ?_
          have hfin := (by assumption : Below wr.heap.size wr _ ∧ _ ∧ _ ∧ _ ∧ _ ∧ _ ∧ _ ∧ _ ∧ _).1
          clear hHeld rows s0 s1 s2 z0 x0 x1 x2 HT
          have HB := hid (bthen hbw.out hfin)
          have vm : max (M : Int) (m : Int) = ((max M m : Nat) : Int) := by omega
          have HM3 := hid (show max M m ≤ k ∧ ∀ i', i' < j + 1 → ∀ m' : Nat, timeP (gs.getD i' default) (ss.getD i' default) o i pw = ((m' : Int), 0) → m' ≤ max M m from ⟨by have := HM.out.1; omega, fun i' hi m' hm' => by
            rcases Nat.lt_or_ge i' j with h | h
            · have := HM.out.2 i' h m' hm'; omega
            · obtain rfl : i' = j := by omega
              have e := HM2.out.symm.trans hm'
              have e2 : (m : Int) = (m' : Int) := by simpa using e
              omega⟩)
          have vj : IntKind.i64.wrap ((j : Int) + 1) = ((j + 1 : Nat) : Int) := by rw [IntWalk.i64_in _ (by omega)]; omega
          clear hbw hfin HM HM2
          go_wp2_with fail
          exact ⟨⟨j + 1, max M m, by omega, rfl, by go_num, HM3, HB⟩, by simp [intOf]; omega⟩
        · obtain rfl : j = ns := by omega
          obtain rfl : M = k := by
            have h1 := HM.out.1
            rcases HMx.out with h | ⟨j', hj', h⟩
            · omega
            · have := HM.out.2 j' hj' k h; omega
          have BF := H2.out.below
          have v1 : IntKind.i64.wrap ((M : Int) + 10) = (M : Int) + 10 := IntWalk.i64_in _ (by omega)
          have v2 : IntKind.i64.wrap ((M : Int) + 10 - 1) = (M : Int) + 9 := by rw [IntWalk.i64_in _ (by omega)]; omega
          have v3 : IntKind.i64.wrap (((M : Int) + 9).tdiv 10) = a := by rw [← HKa.out, IntWalk.i64_in _ (by rw [HKa.out, ← up_ten]; unfold upq; omega), HKa.out]
          have z0 := H2.out.z0
          have l3 := H2.out.lt
          have l3a : w.heap.size < wr.heap.size := by omega
          have hjj : ¬ ((j : Int) < (j : Int)) := by omega
          go_wp2_with fail
          refine (awake_any _).mono ?_
          rintro e w9 ⟨rfl, hb9⟩
          go_wp2_with fail
          go_ret
          exact ⟨rfl, bthen BF hb9⟩
    · have c1 : (er == 9) = false := by simp [h9]
      have c3 : ((ns : Int) != (n : Int)) = false := by simp [hne]
      have c2 : (er != 0) = true := by simp [h0]
      clear h9 h0 hne
      go_wp2_with fail
      refine (awake_any _).mono ?_
      rintro e w9 ⟨rfl, hb9⟩
      go_wp2_with fail
      go_ret
      exact ⟨rfl, bthen H1.out.below hb9⟩
  · have h0 : er ≠ 0 := by
      rcases HP.out with h | h
      · exact h.2
      · exact absurd h.1 hne
    have c1 : (er == 9) = false := by simp [h9]
    have c3 : ((ns : Int) != (n : Int)) = true := by simp; omega
    have c2 : (er != 0) = true := by simp [h0]
    clear h9 h0 hne
    go_wp2_with fail
    refine (awake_any _).mono ?_
    rintro e w9 ⟨rfl, hb9⟩
    go_wp2_with fail
    go_ret
    exact ⟨rfl, bthen H1.out.below hb9⟩
end Go.Proofs.Ytpgggffcpcjahaa
