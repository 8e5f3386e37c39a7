/- Gate, part YF: what the laws say of sensors: agrees, enough. -/
import Derived.Test.YtpgggffcpcjahaaYE
import Derived.Test.YtpgggffcpcjahaaLA
import Derived.Lib.QuietBelow
set_option linter.all false
namespace Go.Proofs.Ytpgggffcpcjahaa
open Go.RowKit Go.Sort

set_option maxRecDepth 100000 in
set_option maxHeartbeats 2000000 in
theorem lagrees_any (s : Sen) (r x : Int) (w : World) (hs : SenGood s) (hx : 0 ≤ x ∧ x ≤ 5000) :
    Calls Try.prog 72 #[.agg #[.int .i64 s.kind, .int .i64 s.at_, .int .i64 s.tol], .int .i64 r, .int .i64 x] w fun e w' => e = .returned (.bool (agB s r x)) ∧ Below w.heap.size w w' := by
  have h1 := hs.at_; have h2 := hs.tol
  have v1 : IntKind.i64.wrap (x - s.tol) = x - s.tol := IntWalk.i64_in _ (by omega)
  have v2 : IntKind.i64.wrap (x + s.tol) = x + s.tol := IntWalk.i64_in _ (by omega)
  have v3 : IntKind.i64.wrap (s.at_ - s.tol) = s.at_ - s.tol := IntWalk.i64_in _ (by omega)
  have v4 : IntKind.i64.wrap (s.at_ + s.tol) = s.at_ + s.tol := IntWalk.i64_in _ (by omega)
  obtain ⟨y, hy⟩ : ∃ y, agB s r x = y := ⟨_, rfl⟩
  have HE := hid (show y = if s.kind = 1 then inB r (x - s.tol) (x + s.tol) else if r = 1 then decide (s.at_ - s.tol ≤ x) else if r = 0 then decide (x ≤ s.at_ + s.tol) else false by rw [← hy]; rfl)
  rw [hy]
  clear hy h1 h2 hs hx
  by_cases hk : s.kind = 1
  · have q : (s.kind == 1) = true := by simp [hk]
    have HR := hid (HE.out.trans (if_pos hk))
    clear hk HE
    by_cases c1 : x - s.tol ≤ r
    · by_cases c2 : r ≤ x + s.tol
      · have d1 : decide (x - s.tol ≤ r) = true := by simp [c1]
        have d2 : decide (r ≤ x + s.tol) = true := by simp [c2]
        have e : y = true := HR.out.trans (inB_iff.2 ⟨c1, c2⟩)
        clear c1 c2 HR
        subst e
        go_enter Try.func72, Try.ntmps72
        go_wp2_with fail
        go_ret
        exact ⟨rfl, (Below.refl _ _).alloc (Nat.le_refl _) _⟩
      · have d1 : decide (x - s.tol ≤ r) = true := by simp [c1]
        have d2 : decide (r ≤ x + s.tol) = false := by simp; omega
        have e : y = false := HR.out.trans (inB_no.2 fun h => c2 h.2)
        clear c1 c2 HR
        subst e
        go_enter Try.func72, Try.ntmps72
        go_wp2_with fail
        go_ret
        exact ⟨rfl, (Below.refl _ _).alloc (Nat.le_refl _) _⟩
    · have d1 : decide (x - s.tol ≤ r) = false := by simp; omega
      have e : y = false := HR.out.trans (inB_no.2 fun h => c1 h.1)
      clear c1 HR
      subst e
      go_enter Try.func72, Try.ntmps72
      go_wp2_with fail
      go_ret
      exact ⟨rfl, (Below.refl _ _).alloc (Nat.le_refl _) _⟩
  · have q : (s.kind == 1) = false := by simp [hk]
    by_cases h1 : r = 1
    · have q1 : (r == 1) = true := by simp [h1]
      have q0 : (r == 0) = false := by simp [h1]
      have HR := hid (HE.out.trans ((if_neg hk).trans (if_pos h1)))
      clear hk h1 HE
      by_cases c1 : s.at_ - s.tol ≤ x
      · have d1 : decide (s.at_ - s.tol ≤ x) = true := by simp [c1]
        have e : y = true := HR.out.trans d1
        clear c1 HR
        subst e
        go_enter Try.func72, Try.ntmps72
        go_wp2_with fail
        go_ret
        exact ⟨rfl, (Below.refl _ _).alloc (Nat.le_refl _) _⟩
      · have d1 : decide (s.at_ - s.tol ≤ x) = false := by simp; omega
        have e : y = false := HR.out.trans d1
        clear c1 HR
        subst e
        go_enter Try.func72, Try.ntmps72
        go_wp2_with fail
        go_ret
        exact ⟨rfl, (Below.refl _ _).alloc (Nat.le_refl _) _⟩
    · have q1 : (r == 1) = false := by simp [h1]
      by_cases h0 : r = 0
      · have q0 : (r == 0) = true := by simp [h0]
        have HR := hid (HE.out.trans ((if_neg hk).trans ((if_neg h1).trans (if_pos h0))))
        clear hk h1 h0 HE
        by_cases c1 : x ≤ s.at_ + s.tol
        · have d1 : decide (x ≤ s.at_ + s.tol) = true := by simp [c1]
          have e : y = true := HR.out.trans d1
          clear c1 HR
          subst e
          go_enter Try.func72, Try.ntmps72
          go_wp2_with fail
          go_ret
          exact ⟨rfl, (Below.refl _ _).alloc (Nat.le_refl _) _⟩
        · have d1 : decide (x ≤ s.at_ + s.tol) = false := by simp; omega
          have e : y = false := HR.out.trans d1
          clear c1 HR
          subst e
          go_enter Try.func72, Try.ntmps72
          go_wp2_with fail
          go_ret
          exact ⟨rfl, (Below.refl _ _).alloc (Nat.le_refl _) _⟩
      · have q0 : (r == 0) = false := by simp [h0]
        have e : y = false := HE.out.trans ((if_neg hk).trans ((if_neg h1).trans (if_neg h0)))
        clear hk h1 h0 HE
        subst e
        go_enter Try.func72, Try.ntmps72
        go_wp2_with fail
        go_ret
        exact ⟨rfl, (Below.refl _ _).alloc (Nat.le_refl _) _⟩
set_option maxRecDepth 100000 in
set_option maxHeartbeats 4000000 in
theorem enough_any (g : Gt) (p : GtP) (ra : Option Addr) (rs : List Int) (mc : Nat) (x : Int) (w : World) (hg : GtGood g) (hss : SensAt w p.sa g.ss) (hra : IntsAt w ra rs) (hl : rs.length = g.ss.length) (hx : 0 ≤ x ∧ x ≤ g.travel) :
    Calls Try.prog 33 #[.agg (gtL g p).toArray, .slice ra rs.length mc, .int .i64 x] w fun e w' => e = .returned (.bool (enB g rs x)) ∧ Below w.heap.size w w' := by
  have hsl := hg.slen; have hwr := hg.wrong; have htr := hg.travel
  obtain ⟨sa, hsa⟩ : ∃ sa, p.sa = sa := ⟨_, rfl⟩
  rw [hsa] at hss
  have HSa := hid hsa
  have HG := hid hg; have HSs := hid hss; have HRa := hid hra; have HL := hid hl; have HX := hid hx; have HSl := hid hsl; have HTr := hid htr; have HWr := hid hwr
  have R0 := hid (range_alloc w (gtL g p) 33)
  have B0 : Below w.heap.size w (w.alloc (.cells (gtL g p).toArray 33)) := (Below.refl _ _).alloc (Nat.le_refl _) _
  have S0 : w.heap.size < (w.alloc (.cells (gtL g p).toArray 33)).heap.size := by simp
  clear hsa hg hss hra hl hx hsl hwr htr
  go_enter Try.func33, Try.ntmps33
  go_wp2_with fail
  generalize World.alloc w _ = W1 at *
  go_loopw [7, 8] (fun c i wr => ∃ k : Nat, k ≤ g.ss.length ∧ i = .int .i64 k ∧ c = .int .i64 ((k : Int) - (cntAg g.ss rs x k : Int)) ∧ Below W1.heap.size W1 wr) (fun _ i _ => g.ss.length - (intOf i).toNat)
  case atStart => exact ⟨0, Nat.zero_le _, rfl, by simp [cntAg], Below.refl _ _⟩
  case round =>
    obtain ⟨k, hk, rfl, rfl, hbw⟩ := hrel
    have RR := range_later R0.out hbw S0
    have c19 := range_cell RR (show (gtL g p)[19]? = some (.slice sa g.ss.length p.sc) by rw [← HSa.out]; rfl)
    have c20 := range_cell RR (show (gtL g p)[20]? = some (.int .i64 g.wrong) from rfl)
    have hBw := bthen B0 hbw
    by_cases hlt : k < g.ss.length
    · obtain ⟨b, o, rfl, hb, hat⟩ := (HSs.out.later hBw (Nat.le_refl _)).resolve_left (by intro e; rw [e] at hlt; simp at hlt)
      obtain ⟨rb, ro, rfl, hrb, hrat⟩ := (HRa.out.later hBw (Nat.le_refl _)).resolve_left (by intro e; have := HL.out; rw [e] at this; simp at this; omega)
      have Rt := hat k hlt
      have hrj : k < rs.length := by rw [HL.out]; exact hlt
      have r0 := hrat k hrj
      have hSg := senGood (HG.out.ss g.ss[k] (List.getElem_mem hlt))
      have HCs := hid (fun (y : Bool) (hy : agB g.ss[k] rs[k] x = y) => cntAg_succ g.ss rs x (k := k) (s := g.ss[k]) (r := rs[k]) (y := y) (by simp [List.getD, hlt]) (by simp [List.getD, hrj]) hy)
      generalize g.ss[k] = s at *
      generalize rs[k] = r at *
      have t0 : wr.cell? ⟨b, o + k * 3, none⟩ = some (.int .i64 s.kind) := by simpa using Rt 0 _ (show (senL s)[0]? = some (.int .i64 s.kind) from rfl)
      have t1 : wr.cell? ⟨b, o + k * 3 + 1, none⟩ = some (.int .i64 s.at_) := Rt 1 _ rfl
      have t2 : wr.cell? ⟨b, o + k * 3 + 2, none⟩ = some (.int .i64 s.tol) := Rt 2 _ rfl
      have hjI : (k : Int) < (g.ss.length : Int) := by omega
      have hjI2 : (k : Int) < (rs.length : Int) := by omega
      have hj0' : (0 : Int) ≤ (k : Int) := Int.natCast_nonneg _
      have hAg := hid (fun W => lagrees_any s r x W hSg ⟨HX.out.1, by have := HX.out; have := HTr.out; omega⟩)
      obtain ⟨y, hy⟩ : ∃ y, agB s r x = y := ⟨_, rfl⟩
      rw [hy] at hAg
      have hcs := HCs.out y hy
      have HC := hid hcs
      have hcl := cntAg_le g.ss rs x k
      generalize cntAg g.ss rs x k = c at *
      have hsl := HSl.out
      have v3 : IntKind.i64.wrap ((k : Int) - (c : Int) + 1) = (k : Int) - (c : Int) + 1 := IntWalk.i64_in _ (by omega)
      have v4 : IntKind.i64.wrap ((k : Int) + 1) = ((k + 1 : Nat) : Int) := by rw [IntWalk.i64_in _ (by omega)]; simp
      have hsl2 := hid hsl
      have y0 := fun d os => cell_regrown t0 d os
      have y1 := fun d os => cell_regrown t1 d os
      have y2 := fun d os => cell_regrown t2 d os
      have y3 := fun d os => cell_regrown c19 d os
      have y4 := fun d os => cell_regrown r0 d os
      clear hat hrat Rt hSg HCs hy hcs hcl hsl RR
      go_wp2_with fail
      refine wp_region_quiet_below (by kernel_rfl) (by kernel_rfl) ?_
      repeat (quiet_step (fail))
      quiet_step (exact Calls.regrown_of (hAg.out _))
      repeat (quiet_step (fail))
      refine wpQuiet_nil ?_
      intro _ hw'
      obtain ⟨⟨dq, osq⟩, hw''⟩ := hw'
      subst hw''
      have bX := bthen hbw (below_regrown wr dq osq)
      clear y0 y1 y2 y3 y4 t0 t1 t2 r0 c19 c20 hBw
      generalize grow (redrawn wr dq) osq = X at *
      cases y
      · go_wp2_with fail
        refine ⟨⟨k + 1, by omega, by go_num, by rw [HC.out]; congr 1; simp; omega, bX⟩, by simp [intOf]; omega⟩
      · go_wp2_with fail
        refine ⟨⟨k + 1, by omega, by go_num, by rw [HC.out]; congr 1; simp; omega, bX⟩, by simp [intOf]; omega⟩
    · obtain rfl : k = g.ss.length := by omega
      have HEn := hid (show enB g rs x = decide ((g.ss.length : Int) - (cntAg g.ss rs x g.ss.length : Int) ≤ g.wrong) by
        unfold enB; rw [decide_eq_decide]; omega)
      clear RR
      go_wp2_with fail
      go_ret
      exact ⟨ret_bool HEn.out.symm, hBw⟩
end Go.Proofs.Ytpgggffcpcjahaa
