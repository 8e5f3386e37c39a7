/- Tide, part F: Check. -/
import Derived.Test.YtblneiegekdnjaaTE
set_option linter.all false
namespace Go.Proofs.Ytblneiegekdnjaa
open Go.RowKit

/-- The error of the i-th of some constituents. -/
def conAt (cs : List Con) (i : Nat) : Int := conErr ((cs.take i).map Con.nm) (cs.getD i default)
def checkP (mean : Int) (cs : List Con) : Int × Int :=
  if inB mean (-20000) 20000 = false then (-1, 7) else if 12 < cs.length then (-1, 3) else eachP (conAt cs) 0 cs.length

/-- Constituents in memory, every one of which is well formed. -/
structure ConsOk (w : World) (a : Option Addr) (cap : Nat) (cs : List Con) : Prop where
  len : cs.length ≤ cap
  cap : cs.length ≤ 140737488355328
  wf : ∀ c ∈ cs, ConWf c
  at_ : ConsAt w a cs
theorem ConsAt.later {w w' : World} {a : Option Addr} {l : List Con} {B : Nat} (h : ConsAt w a l) (hb : Below B w w') (hB : w.heap.size ≤ B) : ConsAt w' a l := by
  rcases h with h | ⟨b, o, ha, hs, hc⟩
  · exact .inl h
  · refine .inr ⟨b, o, ha, Nat.lt_of_lt_of_le hs hb.size, fun i hi => ?_⟩
    obtain ⟨ha, hc, h⟩ := hc i hi
    exact ⟨ha, hc, h.later hs hb hB⟩
theorem ConsOk.later {w w' : World} {a : Option Addr} {cap : Nat} {cs : List Con} {B : Nat} (h : ConsOk w a cap cs) (hb : Below B w w') (hB : w.heap.size ≤ B) : ConsOk w' a cap cs :=
  ⟨h.len, h.cap, h.wf, h.at_.later hb hB⟩

/-- constError, by the words of ConsOk. -/
theorem constError_ok (a : Option Addr) (cap : Nat) (cs : List Con) (i : Nat) (hi : i < cs.length) (w : World) (h : ConsOk w a cap cs) :
    Calls Try.prog 54 #[.slice a cs.length cap, .int .i64 i] w fun e w' => e = .returned (.int .i64 (conAt cs i)) ∧ Below w.heap.size w w' := by
  rcases h.at_ with h0 | ⟨b, o, rfl, hs, hc⟩
  · subst h0; simp at hi
  have e : conAt cs i = conErr ((cs.take i).map Con.nm) cs[i] := by unfold conAt; simp [List.getD, hi]
  rw [e]
  exact constError_any b o cap cs i hi h.len w (fun i => if h : i < cs.length then Classical.choose (hc i h) else none) (fun i => if h : i < cs.length then Classical.choose (Classical.choose_spec (hc i h)) else 0) hs
    h.cap (fun i hi => by simp only [hi, dif_pos]; exact Classical.choose_spec (Classical.choose_spec (hc i hi))) h.wf
theorem constituent_ok (mean : Int) (a : Option Addr) (cap : Nat) (cs : List Con) (i : Nat) (hi : i < cs.length) (w : World) (h : ConsOk w a cap cs) :
    Calls Try.prog 56 #[.agg #[.int .i64 mean, .slice a cs.length cap], .int .i64 i] w fun e w' => e = .returned (.int .i64 (conAt cs i)) ∧ Below w.heap.size w w' := by
  rcases h.at_ with h0 | ⟨b, o, rfl, hs, hc⟩
  · subst h0; simp at hi
  have e : conAt cs i = conErr ((cs.take i).map Con.nm) cs[i] := by unfold conAt; simp [List.getD, hi]
  rw [e]
  exact constituent_any mean b o cap cs i hi w (fun i => if h : i < cs.length then Classical.choose (hc i h) else none) (fun i => if h : i < cs.length then Classical.choose (Classical.choose_spec (hc i h)) else 0) hs
    h.cap (fun i hi => by simp only [hi, dif_pos]; exact Classical.choose_spec (Classical.choose_spec (hc i hi))) h.wf

theorem callFunc_check1 (args : Array Value) (w : World) : (callFunc 53 args).run Try.prog w = .ok (.enter 53 args) w := by simp [go_sem]

set_option maxHeartbeats 400000 in
theorem check1_any (tb : Nat) (a : Option Addr) (cap : Nat) (cs : List Con) (i : Nat) (hi : i < cs.length) (w : World) (h : ConsOk w a cap cs) (h1 : w.cell? ⟨tb, 1, none⟩ = some (.slice a cs.length cap)) :
    Calls Try.prog 53 #[.int .i64 i, .pointer (some ⟨tb, 0, none⟩)] w fun e w' => e = .returned (.int .i64 (conAt cs i)) ∧ Below w.heap.size w w' := by
  go_enter Try.func53, Try.ntmps53
  go_wp2_with fail
  refine (constError_ok a cap cs i hi w h).mono ?_
  rintro e w' ⟨rfl, hb⟩
  go_wp2_with fail
  go_ret
  exact ⟨rfl, hb⟩

/-- A table's box, while memory is made. -/
theorem keepT {B tb : Nat} {W1 W w1 : World} {x y : Value} (hb : Below W.heap.size W w1) (h : Below B W1 W ∧ W.cell? ⟨tb, 0, none⟩ = some x ∧ W.cell? ⟨tb, 1, none⟩ = some y) (ht : tb < B) (hB : B ≤ W1.heap.size) :
    Below B W1 w1 ∧ w1.cell? ⟨tb, 0, none⟩ = some x ∧ w1.cell? ⟨tb, 1, none⟩ = some y := by
  have hs := Nat.le_trans hB h.1.size
  refine ⟨h.1.trans (hb.mono hs), ?_, ?_⟩
  · rw [hb.cell (p := ⟨tb, 0, none⟩) (by simp; omega)]; exact h.2.1
  · rw [hb.cell (p := ⟨tb, 1, none⟩) (by simp; omega)]; exact h.2.2
theorem ret_two {a b c d : Int} (h : a = b) (k : c = d) : Ending.returned (.tuple #[.int .i64 a, .int .i64 c]) = Ending.returned (.tuple #[.int .i64 b, .int .i64 d]) := by rw [h, k]
theorem each_zero (f : Nat → Int) (k n : Nat) (h : (eachP f k n).2 = 0) : eachP f k n = (0, 0) := by
  induction n generalizing k with
  | zero => rfl
  | succ n ih =>
    unfold eachP at h ⊢
    split
    · rename_i hf; rw [if_pos hf] at h; exact absurd h hf
    · rename_i hf; rw [if_neg hf] at h; exact ih _ h
theorem check_first (mean : Int) (cs : List Con) : (firstAt 0 [mustP (inB mean (-20000) 20000) (-1) 7, mustP (decide ((cs.length : Int) ≤ 12)) (-1) 3, eachP (conAt cs) 0 cs.length]).2 = checkP mean cs := by
  unfold checkP
  cases h : inB mean (-20000) 20000
  · simp [firstAt, mustP]
  · by_cases h2 : 12 < cs.length
    · have : decide ((cs.length : Int) ≤ 12) = false := by simp; omega
      simp [firstAt, mustP, this, h2]
    · have : decide ((cs.length : Int) ≤ 12) = true := by simp; omega
      rw [if_neg (by simp), if_neg h2]
      simp only [firstAt, mustP, this, cond_true, ne_eq, not_true_eq_false, if_false]
      split
      · rfl
      · rename_i h0
        have h0 := Decidable.not_not.1 h0
        exact (each_zero _ _ _ h0).symm
theorem keepLe {B : Nat} {W1 W : World} {x y : Value} {p q : Addr} (hB : B ≤ W1.heap.size) (h : Below B W1 W ∧ W.cell? p = some x ∧ W.cell? q = some y) : B ≤ W.heap.size := Nat.le_trans hB h.1.size
theorem keepB {B : Nat} {W1 W : World} {x y : Value} {p q : Addr} (h : Below B W1 W ∧ W.cell? p = some x ∧ W.cell? q = some y) : Below B W1 W := h.1
set_option maxRecDepth 100000 in
set_option maxHeartbeats 1000000 in
theorem check_any (mean : Int) (a : Option Addr) (cap : Nat) (cs : List Con) (w : World) (h : ConsOk w a cap cs) :
    Calls Try.prog 18 #[.agg #[.int .i64 mean, .slice a cs.length cap]] w fun e w' => e = .returned (.tuple #[.int .i64 (checkP mean cs).1, .int .i64 (checkP mean cs).2]) ∧ Below w.heap.size w w' := by
  have hlen := h.len
  have hcap := h.cap
  have HH := hid h; clear h
  go_enter Try.func18, Try.ntmps18
  go_wp2_with fail
  generalize hW1 : World.alloc w _ = W1
  have B1 : Below w.heap.size w W1 := by rw [← hW1]; exact (Below.refl _ _).alloc (Nat.le_refl _) _
  have S1 : w.heap.size < W1.heap.size := by rw [← hW1]; simp
  have t0 : W1.cell? ⟨w.heap.size, 0, none⟩ = some (.int .i64 mean) := by rw [← hW1]; simp [go_sem]
  have t1 : W1.cell? ⟨w.heap.size, 1, none⟩ = some (.slice a cs.length cap) := by rw [← hW1]; simp [go_sem]
  clear hW1
  have hB1 : w.heap.size + 1 ≤ W1.heap.size := by omega
  have hI : ChkI (w.heap.size + 1) W1 53 #[.pointer (some ⟨w.heap.size, 0, none⟩)] cs.length (conAt cs) :=
    ⟨callFunc_check1, fun i hi W hW => check1_any _ a cap cs i hi W (HH.out.later (B1.trans (hW.mono (by omega))) (Nat.le_refl _)) ((hW.cell (p := ⟨w.heap.size, 1, none⟩) (by simp)).trans t1)⟩
  go_region_held3 (fun w' => Below (w.heap.size + 1) W1 w' ∧ w'.cell? ⟨w.heap.size, 0, none⟩ = some (.int .i64 mean) ∧ w'.cell? ⟨w.heap.size, 1, none⟩ = some (.slice a cs.length cap))
    (first | assumption | exact ⟨(Below.refl _ _).drew, by simpa using t0, by simpa using t1⟩ | exact keepT (by assumption) (by assumption) (Nat.lt_succ_self _) hB1 | exact keepT ((Below.refl _ _).alloc (Nat.le_refl _) _) (by assumption) (Nat.lt_succ_self _) hB1)
    (first
      | (go_at_call 51; refine (isLevel_any _ _).mono ?_; rintro e w' ⟨rfl, rfl⟩)
      | (go_at_call 50; refine (must_any _ _ _ _).mono ?_; rintro e w' ⟨caps, rfl, hb, hchk⟩)
      | (go_at_call 52; refine (each_any (w.heap.size + 1) W1 cs.length (conAt cs) _ _ _ (by omega) (by exact keepLe hB1 (by assumption)) (by exact keepB (by assumption)) hI).mono ?_; rintro e w' ⟨caps, rfl, hb, hchk⟩)
      | (go_at_call 49; apply Calls.mono; apply first3_chain; assumption; assumption; assumption; assumption; assumption; rintro e w' ⟨rfl, hb⟩))
  all_goals
    have hfin := keepB (by assumption : Below (w.heap.size + 1) W1 _ ∧ World.cell? _ ⟨w.heap.size, 0, none⟩ = some (.int .i64 mean) ∧ World.cell? _ ⟨w.heap.size, 1, none⟩ = some (.slice a cs.length cap))
    have HF := hid (check_first mean cs)
    generalize firstAt 0 _ = r at *
    go_wp2_with fail
    go_ret2
    refine ⟨ret_two (congrArg Prod.fst HF.out) (congrArg Prod.snd HF.out), ?_⟩
    exact B1.trans (hfin.mono (by omega))

set_option maxRecDepth 20000 in
set_option maxHeartbeats 1000000 in
theorem rcheck_any (mean : Int) (a : Option Addr) (cap : Nat) (cs : List Con) (w : World) (h : ConsOk w a cap cs) :
    Calls Try.prog 19 #[.agg #[.int .i64 mean, .slice a cs.length cap]] w fun e w' => e = .returned (.tuple #[.int .i64 (checkP mean cs).1, .int .i64 (checkP mean cs).2]) ∧ Below w.heap.size w w' := by
  have hlen := h.len
  have hcap := h.cap
  have HH := hid h; clear h
  obtain ⟨p, hp⟩ : ∃ p, p = checkP mean cs := ⟨_, rfl⟩
  rw [← hp]
  unfold checkP at hp
  have HP := hid hp; clear hp
  cases hm : inB mean (-20000) 20000
  · have HM := hid hm
    go_enter Try.func19, Try.ntmps19
    go_wp2_with (go_at_call 55; refine (rin_val _ _ _ _ _ (by assumption)).mono ?_; rintro e w' ⟨rfl, rfl⟩)
    go_ret2
    refine ⟨?_, (Below.refl _ _).alloc (Nat.le_refl _) _⟩
    rw [HP.out, if_pos HM.out]; rfl
  by_cases h12 : 12 < cs.length
  · have h12' : (12 : Int) < cs.length := by omega
    have HM := hid hm
    go_enter Try.func19, Try.ntmps19
    go_wp2_with (go_at_call 55; refine (rin_val _ _ _ _ _ (by assumption)).mono ?_; rintro e w' ⟨rfl, rfl⟩)
    go_ret2
    refine ⟨?_, (Below.refl _ _).alloc (Nat.le_refl _) _⟩
    rw [HP.out, if_neg (by rw [HM.out]; simp), if_pos (by omega)]; rfl
  have h12' : ¬ (12 : Int) < cs.length := by omega
  have hp2 := HP.out
  rw [if_neg (by rw [hm]; simp), if_neg h12] at hp2
  clear HP
  have HP := hid hp2; clear hp2
  go_enter Try.func19, Try.ntmps19
  go_wp2_with (go_at_call 55; refine (rin_val _ _ _ _ _ (by assumption)).mono ?_; rintro e w' ⟨rfl, rfl⟩)
  generalize hW1 : World.alloc w _ = W1
  have B1 : Below w.heap.size w W1 := by rw [← hW1]; exact (Below.refl _ _).alloc (Nat.le_refl _) _
  have S1 : w.heap.size < W1.heap.size := by rw [← hW1]; simp
  have t0 : W1.cell? ⟨w.heap.size, 0, none⟩ = some (.int .i64 mean) := by rw [← hW1]; simp [go_sem]
  have t1 : W1.cell? ⟨w.heap.size, 1, none⟩ = some (.slice a cs.length cap) := by rw [← hW1]; simp [go_sem]
  clear hW1 hm
  go_loopw [4, 5] (fun i _ wr => ∃ k : Nat, k ≤ cs.length ∧ i = .int .i64 k ∧ Hid (eachP (conAt cs) 0 cs.length = eachP (conAt cs) k (cs.length - k)) ∧ Below (w.heap.size + 1) W1 wr) (fun i _ _ => cs.length - (intOf i).toNat)
  case atStart => exact ⟨0, Nat.zero_le _, rfl, hid rfl, Below.refl _ _⟩
  case round =>
    obtain ⟨k, hk, rfl, hf, hbw⟩ := hrel
    have e0 := (hbw.cell (p := ⟨w.heap.size, 0, none⟩) (by simp)).trans t0
    have e1 := (hbw.cell (p := ⟨w.heap.size, 1, none⟩) (by simp)).trans t1
    have hbl : Below w.heap.size w wr := B1.trans (hbw.mono (by omega))
    have hsz : w.heap.size < wr.heap.size := Nat.lt_of_lt_of_le S1 hbw.size
    clear t0 t1
    by_cases hlt : k < cs.length
    · have hC := constituent_ok mean a cap cs k hlt wr (HH.out.later hbl (Nat.le_refl _))
      have HC := hid hC; clear hC
      have hyes := fun he => eachP_yes (f := conAt cs) hlt he
      have hno := fun he => eachP_no (f := conAt cs) hlt he
      generalize conAt cs k = y at *
      have HY := hid hyes; clear hyes
      have HN := hid hno; clear hno
      go_wp2_with fail
      refine HC.out.mono ?_
      rintro e w' ⟨rfl, hb'⟩
      go_wp2_with fail
      · have hy : (y != 0) = true := by assumption
        go_ret2
        refine ⟨?_, hbl.trans (hb'.mono (by omega))⟩
        rw [HP.out, hf.out, HY.out (by simpa using hy)]; rfl
      · have hy : (y != 0) = false := by assumption
        refine ⟨⟨k + 1, by omega, by go_num, hid (by rw [hf.out, HN.out (by simpa using hy)]), hbw.trans (hb'.mono (by omega))⟩, ?_⟩
        simp [intOf]; omega
    · have hkl : k = cs.length := by omega
      have HL := hid hkl; clear hkl
      go_wp2_with fail
      go_ret2
      refine ⟨?_, hbl⟩
      rw [HP.out, hf.out, HL.out]; simp [eachP]
end Go.Proofs.Ytblneiegekdnjaa
