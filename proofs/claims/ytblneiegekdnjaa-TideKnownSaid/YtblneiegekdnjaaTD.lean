/- Tide, part D: constituents and tables in memory. -/
import Derived.Test.YtblneiegekdnjaaTC
import Derived.Deep.RegionHeld3
set_option linter.all false
namespace Go.Proofs.Ytblneiegekdnjaa
open Go.RowKit

/-- A constituent, as it is read. -/
structure Con where
  name : ByteArray
  hs : List Int
  off : Int
  step : Int
  den : Int
  slack : Int
  deriving Inhabited

/-- A number of 64 bits. -/
def I64 (x : Int) : Prop := -9223372036854775808 ≤ x ∧ x ≤ 9223372036854775807

/-- Numbers in memory, from an address on, if there are any. -/
def IntsAt (w : World) (a : Option Addr) (l : List Int) : Prop :=
  l = [] ∨ ∃ b o, a = some ⟨b, o, none⟩ ∧ b < w.heap.size ∧ ∀ i (h : i < l.length), w.cell? ⟨b, o + i, none⟩ = some (.int .i64 l[i])
theorem IntsAt.later {w w' : World} {a : Option Addr} {l : List Int} {B : Nat} (h : IntsAt w a l) (hb : Below B w w') (hB : w.heap.size ≤ B) : IntsAt w' a l := by
  rcases h with h | ⟨b, o, ha, hs, hc⟩
  · exact .inl h
  · exact .inr ⟨b, o, ha, Nat.lt_of_lt_of_le hs hb.size, fun i hi => by rw [hb.cell (p := ⟨b, o + i, none⟩) (by simp; omega)]; exact hc i hi⟩

structure ConWf (c : Con) : Prop where
  name : c.name.size ≤ maxLen
  len : c.hs.length ≤ 140737488355328
  hs : ∀ h ∈ c.hs, I64 h
  off : I64 c.off
  step : I64 c.step
  den : I64 c.den
  slack : I64 c.slack

/-- A constituent in memory. -/
structure ConAt (w : World) (b o : Nat) (c : Con) (ha : Option Addr) (hc : Nat) : Prop where
  c0 : w.cell? ⟨b, o, none⟩ = some (.string c.name)
  c1 : w.cell? ⟨b, o + 1, none⟩ = some (.slice ha c.hs.length hc)
  c2 : w.cell? ⟨b, o + 2, none⟩ = some (.int .i64 c.off)
  c3 : w.cell? ⟨b, o + 3, none⟩ = some (.int .i64 c.step)
  c4 : w.cell? ⟨b, o + 4, none⟩ = some (.int .i64 c.den)
  c5 : w.cell? ⟨b, o + 5, none⟩ = some (.int .i64 c.slack)
  hs : IntsAt w ha c.hs

def ConsAt (w : World) (a : Option Addr) (l : List Con) : Prop :=
  l = [] ∨ ∃ b o, a = some ⟨b, o, none⟩ ∧ b < w.heap.size ∧ ∀ i (h : i < l.length), ∃ ha hc, ConAt w b (o + i * 6) l[i] ha hc

theorem ConAt.later {w w' : World} {b o : Nat} {c : Con} {ha : Option Addr} {hc B : Nat} (h : ConAt w b o c ha hc) (hbb : b < w.heap.size) (hb : Below B w w') (hB : w.heap.size ≤ B) : ConAt w' b o c ha hc := by
  have e : ∀ o, w'.cell? ⟨b, o, none⟩ = w.cell? ⟨b, o, none⟩ := fun o => hb.cell (p := ⟨b, o, none⟩) (by simp; omega)
  exact ⟨by rw [e]; exact h.c0, by rw [e]; exact h.c1, by rw [e]; exact h.c2, by rw [e]; exact h.c3, by rw [e]; exact h.c4, by rw [e]; exact h.c5, h.hs.later hb hB⟩

/-- The error of a constituent behind some names. -/
def heightsB (l : List Int) : Bool := l.all fun h => inB h (-10000) 10000
def numsB (c : Con) : Bool := inB c.den 1 1000 && inB c.off 0 (c.den * c.hs.length - 1) && inB c.step 1 100000 && inB c.slack 0 1000
def Con.nm (c : Con) : List UInt8 := c.name.data.toList
def conErr (before : List (List UInt8)) (c : Con) : Int :=
  if nameB c.nm = false then 6
  else if c.nm ∈ before then 5
  else if inB c.hs.length 2 48 = false then 3
  else if heightsB c.hs = false then 7
  else if numsB c = false then 7 else 0

theorem mem_take_map {l : List Con} {i k : Nat} (hk : k < i) (hi : i < l.length) : l[k].nm ∈ (l.take i).map Con.nm := by
  rw [List.mem_map]; exact ⟨l[k], List.mem_take_iff_getElem.2 ⟨k, by omega, rfl⟩, rfl⟩
theorem not_mem_take_map {l : List Con} {i : Nat} {nm : List UInt8} (h : ∀ k (hk : k < l.length), k < i → l[k].nm ≠ nm) : nm ∉ (l.take i).map Con.nm := by
  rw [List.mem_map]; rintro ⟨c, hc, rfl⟩
  obtain ⟨k, hk, rfl⟩ := List.mem_take_iff_getElem.1 hc
  exact h k (by omega) (by omega) rfl

theorem conErr_mk (L : List (List UInt8)) (nm : ByteArray) (hs : List Int) (off step den slack : Int) : conErr L ⟨nm, hs, off, step, den, slack⟩ =
    if nameB nm.data.toList = false then 6
    else if nm.data.toList ∈ L then 5
    else if inB hs.length 2 48 = false then 3
    else if heightsB hs = false then 7
    else if (inB den 1 1000 && inB off 0 (den * hs.length - 1) && inB step 1 100000 && inB slack 0 1000) = false then 7 else 0 := rfl
theorem str_eq {a b : ByteArray} (h : (a.toList == b.toList) = true) : a.data.toList = b.data.toList := by
  rw [beq_iff_eq, ByteArray.toList_eq, ByteArray.toList_eq] at h; exact h
theorem str_ne {a b : ByteArray} (h : (a.toList == b.toList) = false) : a.data.toList ≠ b.data.toList := by
  rw [beq_eq_false_iff_ne, ByteArray.toList_eq, ByteArray.toList_eq] at h; exact h

/-- A constituent as a value. -/
def Con.val (c : Con) (ha : Option Addr) (hc : Nat) : Value := .agg #[.string c.name, .slice ha c.hs.length hc, .int .i64 c.off, .int .i64 c.step, .int .i64 c.den, .int .i64 c.slack]

theorem cycle_any (nm : ByteArray) (ha : Option Addr) (n hc : Nat) (off step den slack : Int) (w : World) (hd0 : 1 ≤ den) (hd1 : den ≤ 1000) (hn : n ≤ 48) :
    Calls Try.prog 91 #[.agg #[.string nm, .slice ha n hc, .int .i64 off, .int .i64 step, .int .i64 den, .int .i64 slack]] w fun e w' => e = .returned (.int .i64 (den * n)) ∧ Below w.heap.size w w' := by
  have h1 : 0 ≤ den * n := Int.mul_nonneg (by omega) (by omega)
  have h2 : den * n ≤ 1000 * 48 := Int.mul_le_mul hd1 (by omega) (by omega) (by omega)
  go_enter Try.func91, Try.ntmps91
  go_wp2
  go_ret
  exact ⟨rfl, (Below.refl _ _).alloc (Nat.le_refl _) _⟩

set_option maxRecDepth 20000 in
set_option maxHeartbeats 1000000 in
theorem constError_any (b o cap : Nat) (l : List Con) (i : Nat) (hi : i < l.length) (hcap : l.length ≤ cap) (w : World) (ha : Nat → Option Addr) (hc : Nat → Nat) (hb : b < w.heap.size) (hl : l.length ≤ 140737488355328)
    (hat : ∀ i (h : i < l.length), ConAt w b (o + i * 6) l[i] (ha i) (hc i)) (hwf : ∀ c ∈ l, ConWf c) :
    Calls Try.prog 54 #[.slice (some ⟨b, o, none⟩) l.length cap, .int .i64 i] w fun e w' => e = .returned (.int .i64 (conErr ((l.take i).map Con.nm) l[i])) ∧ Below w.heap.size w w' := by
  have HA := hid hat; clear hat
  have HW := hid hwf; clear hwf
  obtain ⟨c0, c1, c2, c3, c4, c5, chs⟩ := HA.out i hi
  obtain ⟨wn, wl, wh, wo, wst, wd, wsl⟩ := HW.out l[i] (List.getElem_mem _)
  have HI := hid chs; clear chs
  have HM := hid (fun k (hk : k < i) => mem_take_map (l := l) hk hi)
  have HNM := hid (not_mem_take_map (l := l) (i := i) (nm := l[i].nm))
  generalize (l.take i).map Con.nm = L at *
  generalize l[i] = c at *
  obtain ⟨nm, hs, off, step, den, slack⟩ := c
  have hE := conErr_mk L nm hs off step den slack
  generalize conErr L _ = E at *
  have HE := hid hE; clear hE
  have HNM : Hid ((∀ k (hk : k < l.length), k < i → l[k].nm ≠ nm.data.toList) → ¬ nm.data.toList ∈ L) := HNM
  simp only at c0 c1 c2 c3 c4 c5 HI wn wl wh wo wst wd wsl
  generalize ha i = hai at *
  generalize hc i = hci at *
  have wn' := wn
  unfold maxLen at wn'
  have hicap : i ≤ cap := by omega
  cases hn : nameB nm.data.toList
  · have HN := hid hn
    go_enter Try.func54, Try.ntmps54
    go_wp2_with (go_at_call 20; refine (name_any _ _ wn).mono ?_; rintro e w' ⟨rfl, rfl⟩)
    go_ret
    refine ⟨?_, (Below.refl _ _).alloc (Nat.le_refl _) _⟩
    rw [HE.out, if_pos HN.out]; rfl
  have HN := hid hn
  go_enter Try.func54, Try.ntmps54
  go_wp2_with fail
  refine (name_any _ _ wn).mono ?_
  rintro e w' ⟨rfl, rfl⟩
  rw [hn]; clear hn
  generalize hW1 : w.alloc _ = W1
  have B1 : Below w.heap.size w W1 := by rw [← hW1]; exact (Below.refl _ _).alloc (Nat.le_refl _) _
  have S1 : w.heap.size < W1.heap.size := by rw [← hW1]; simp
  have d0 : W1.cell? ⟨w.heap.size, 0, none⟩ = some (.string nm) := by rw [← hW1]; simp [go_sem]
  have d1 : W1.cell? ⟨w.heap.size, 1, none⟩ = some (.slice hai hs.length hci) := by rw [← hW1]; simp [go_sem]
  have d2 : W1.cell? ⟨w.heap.size, 2, none⟩ = some (.int .i64 off) := by rw [← hW1]; simp [go_sem]
  have d3 : W1.cell? ⟨w.heap.size, 3, none⟩ = some (.int .i64 step) := by rw [← hW1]; simp [go_sem]
  have d4 : W1.cell? ⟨w.heap.size, 4, none⟩ = some (.int .i64 den) := by rw [← hW1]; simp [go_sem]
  have d5 : W1.cell? ⟨w.heap.size, 5, none⟩ = some (.int .i64 slack) := by rw [← hW1]; simp [go_sem]
  clear hW1 c0 c1 c2 c3 c4 c5
  go_wp2_with fail
  go_loopw [4, 7, 22] (fun r _ k wr => ∃ n : Nat, n ≤ i ∧ k = .int .i64 n ∧ r = .int .i64 0 ∧ Hid (∀ k (hk : k < l.length), k < n → l[k].nm ≠ nm.data.toList) ∧ Below (w.heap.size + 1) W1 wr) (fun _ _ k _ => i - (intOf k).toNat)
  case atStart => exact ⟨0, Nat.zero_le _, rfl, rfl, hid (by intro k _ h; omega), Below.refl _ _⟩
  case round =>
    obtain ⟨n, hni, rfl, rfl, hdiff, hbw⟩ := hrel
    have e0 := (hbw.cell (p := ⟨w.heap.size, 0, none⟩) (by simp)).trans d0
    have hbl : Below w.heap.size w wr := B1.trans (hbw.mono (by omega))
    have hsz : w.heap.size < wr.heap.size := Nat.lt_of_lt_of_le S1 hbw.size
    by_cases hlt : n < i
    · have hnl : n < l.length := by omega
      obtain ⟨c0, c1, c2, c3, c4, c5, _⟩ := (HA.out n (by omega)).later hb hbl (Nat.le_refl _)
      have HMn := hid (HM.out n hlt)
      clear d0 d1 d2 d3 d4 d5
      generalize hgn : l[n] = cn at *
      obtain ⟨nm2, hs2, off2, step2, den2, slack2⟩ := cn
      have HMn : Hid (nm2.data.toList ∈ L) := HMn
      have HN0 : Hid (l[n].nm = nm2.data.toList) := hid (by rw [hgn]; rfl)
      clear hgn
      simp only at c0 c1 c2 c3 c4 c5
      go_wp2_with fail
      · go_ret
        refine ⟨?_, hbl.trans (((Below.refl _ _).alloc (Nat.le_refl _) _).mono (by omega))⟩
        have hq : nm2.data.toList = nm.data.toList := str_eq ‹_›
        rw [HE.out, if_neg (by rw [HN.out]; simp), if_pos (by rw [← hq]; exact HMn.out)]; rfl
      · have hq : nm2.data.toList ≠ nm.data.toList := str_ne ‹_›
        refine ⟨⟨n + 1, by omega, by go_num, rfl, hid ?_, hbw.alloc (by omega) _⟩, by simp [intOf]; omega⟩
        intro k hk hkn
        by_cases h : k < n
        · exact hdiff.out k hk h
        · obtain rfl : k = n := by omega
          rw [HN0.out]; exact hq
    · have e1 := (hbw.cell (p := ⟨w.heap.size, 1, none⟩) (by simp)).trans d1
      have e2 := (hbw.cell (p := ⟨w.heap.size, 2, none⟩) (by simp)).trans d2
      have e3 := (hbw.cell (p := ⟨w.heap.size, 3, none⟩) (by simp)).trans d3
      have e4 := (hbw.cell (p := ⟨w.heap.size, 4, none⟩) (by simp)).trans d4
      have e5 := (hbw.cell (p := ⟨w.heap.size, 5, none⟩) (by simp)).trans d5
      have HE2 := HE.out
      rw [if_neg (by rw [HN.out]; simp), if_neg (HNM.out (fun k hk hkn => hdiff.out k hk (by omega)))] at HE2
      have HI2 := HI.out.later hbl (Nat.le_refl _)
      have HIw := hid HI2; clear HI2
      clear d0 d1 d2 d3 d4 d5 hdiff HNM HM HE
      have HE := hid HE2; clear HE2
      cases hlen : inB hs.length 2 48
      · have HLen := hid hlen
        go_wp2_with fail
        refine (in_any _ _ _ _).mono ?_
        rintro e w' ⟨rfl, rfl⟩
        rw [hlen]; clear hlen
        go_wp2_with fail
        go_ret
        refine ⟨?_, hbl⟩
        rw [HE.out, if_pos HLen.out]; rfl
      have HLen := hid hlen
      go_wp2_with fail
      refine (in_any _ _ _ _).mono ?_
      rintro e w' ⟨rfl, rfl⟩
      rw [hlen]; clear hlen
      go_wp2_with fail
      have hlb := inB_iff.1 HLen.out
      obtain ⟨hl2, hl48⟩ := hlb
      have HI3 := HIw.out
      rcases HI3 with h0 | ⟨hbk, hof, rfl, hbs, hcs⟩
      · subst h0; simp at hl2
      have HCS := hid hcs; clear hcs HIw HI
      go_loop [4, 9, 40] (fun r _ k => ∃ n : Nat, n ≤ hs.length ∧ k = .int .i64 n ∧ r = .int .i64 0 ∧ Hid (heightsB (hs.take n) = true)) (fun _ _ k => hs.length - (intOf k).toNat)
      case atStart => exact ⟨0, Nat.zero_le _, rfl, rfl, hid rfl⟩
      case round =>
        obtain ⟨m, hm, rfl, rfl, hall⟩ := hrel
        by_cases hlt2 : m < hs.length
        · have hcell := HCS.out m hlt2
          have HT := hid (show heightsB (hs.take (m + 1)) = (heightsB (hs.take m) && inB hs[m] (-10000) 10000) by
            unfold heightsB; rw [List.take_succ_eq_append_getElem hlt2, List.all_append]; simp)
          have HF := hid (fun (h : inB hs[m] (-10000) 10000 = false) => show heightsB hs = false by
            unfold heightsB; rw [List.all_eq_false]; exact ⟨hs[m], List.getElem_mem _, by simp [h]⟩)
          generalize hs[m] = x at *
          cases hx : inB x (-10000) 10000
          · have HX := hid hx
            go_wp2_with fail
            refine (in_any _ _ _ _).mono ?_
            rintro e w' ⟨rfl, rfl⟩
            rw [hx]; clear hx
            go_wp2_with fail
            go_ret
            refine ⟨?_, hbl⟩
            rw [HE.out, if_neg (by rw [HLen.out]; simp), if_pos (HF.out HX.out)]; rfl
          · have HX := hid hx
            go_wp2_with fail
            refine (in_any _ _ _ _).mono ?_
            rintro e w' ⟨rfl, rfl⟩
            rw [hx]; clear hx
            go_wp2_with fail
            go_round
            case rel => exact ⟨m + 1, by omega, by go_num, rfl, hid (by rw [HT.out, hall.out, HX.out]; rfl)⟩
            case measure => simp [intOf]; omega
        · have HE2 := HE.out
          rw [if_neg (by rw [HLen.out]; simp), if_neg (by rw [← List.take_of_length_le (l := hs) (i := m) (by omega), hall.out]; simp)] at HE2
          clear HE hall
          have HE := hid HE2; clear HE2
          have g1 : ∀ X : Later (w.heap.size + 1) wr, X.wd.cell? ⟨w.heap.size, 1, none⟩ = some (.slice (some ⟨hbk, hof, none⟩) hs.length hci) := fun X => (X.below.cell (p := ⟨w.heap.size, 1, none⟩) (by simp)).trans e1
          have g2 : ∀ X : Later (w.heap.size + 1) wr, X.wd.cell? ⟨w.heap.size, 2, none⟩ = some (.int .i64 off) := fun X => (X.below.cell (p := ⟨w.heap.size, 2, none⟩) (by simp)).trans e2
          have g3 : ∀ X : Later (w.heap.size + 1) wr, X.wd.cell? ⟨w.heap.size, 3, none⟩ = some (.int .i64 step) := fun X => (X.below.cell (p := ⟨w.heap.size, 3, none⟩) (by simp)).trans e3
          have g4 : ∀ X : Later (w.heap.size + 1) wr, X.wd.cell? ⟨w.heap.size, 4, none⟩ = some (.int .i64 den) := fun X => (X.below.cell (p := ⟨w.heap.size, 4, none⟩) (by simp)).trans e4
          have g5 : ∀ X : Later (w.heap.size + 1) wr, X.wd.cell? ⟨w.heap.size, 5, none⟩ = some (.int .i64 slack) := fun X => (X.below.cell (p := ⟨w.heap.size, 5, none⟩) (by simp)).trans e5
          clear HA HW
          have g0 : ∀ X : Later (w.heap.size + 1) wr, X.wd.cell? ⟨w.heap.size, 0, none⟩ = some (.string nm) := fun X => (X.below.cell (p := ⟨w.heap.size, 0, none⟩) (by simp)).trans e0
          cases hd : inB den 1 1000
          · have HD := hid hd
            go_wp2_with fail
            refine wp_region_grow (w.heap.size + 1) (by kernel_rfl) (by kernel_rfl) ?_
            repeat (go_big_quiet_step ((first | (go_at_call 63; exact later_same (in_val _ _ _ _ _ (by assumption))) | (go_at_call 91; exact later_grow (by omega) (cycle_any _ _ _ _ _ _ _ _ _ (by omega) (by omega) (by omega))))))
            refine wpQuiet_nil ?_
            rintro _ ⟨⟨wx, hbx⟩, rfl⟩
            clear e0 e1 e2 e3 e4 e5 g0 g1 g2 g3 g4 g5
            go_wp2_with fail
            go_ret
            exact ⟨by rw [HE.out]; simp [HD.out]; try rfl, hbl.trans (hbx.mono (by omega))⟩
          have hdb := inB_iff.1 hd
          obtain ⟨hd1, hd2⟩ := hdb
          have hp1 : 0 ≤ den * hs.length := Int.mul_nonneg (by omega) (by omega)
          have hp2 : den * hs.length ≤ 1000 * 48 := Int.mul_le_mul hd2 (by omega) (by omega) (by omega)
          have HD := hid hd
          cases ho : inB off 0 (den * hs.length - 1)
          · have HO := hid ho
            go_wp2_with fail
            refine wp_region_grow (w.heap.size + 1) (by kernel_rfl) (by kernel_rfl) ?_
            repeat (go_big_quiet_step ((first | (go_at_call 63; exact later_same (in_val _ _ _ _ _ (by assumption))) | (go_at_call 91; exact later_grow (by omega) (cycle_any _ _ _ _ _ _ _ _ _ (by omega) (by omega) (by omega))))))
            refine wpQuiet_nil ?_
            rintro _ ⟨⟨wx, hbx⟩, rfl⟩
            clear e0 e1 e2 e3 e4 e5 g0 g1 g2 g3 g4 g5
            go_wp2_with fail
            go_ret
            exact ⟨by rw [HE.out]; simp [HD.out, HO.out]; try rfl, hbl.trans (hbx.mono (by omega))⟩
          have HO := hid ho
          cases hst : inB step 1 100000
          · have HS := hid hst
            go_wp2_with fail
            refine wp_region_grow (w.heap.size + 1) (by kernel_rfl) (by kernel_rfl) ?_
            repeat (go_big_quiet_step ((first | (go_at_call 63; exact later_same (in_val _ _ _ _ _ (by assumption))) | (go_at_call 91; exact later_grow (by omega) (cycle_any _ _ _ _ _ _ _ _ _ (by omega) (by omega) (by omega))))))
            refine wpQuiet_nil ?_
            rintro _ ⟨⟨wx, hbx⟩, rfl⟩
            clear e0 e1 e2 e3 e4 e5 g0 g1 g2 g3 g4 g5
            go_wp2_with fail
            go_ret
            exact ⟨by rw [HE.out]; simp [HD.out, HO.out, HS.out]; try rfl, hbl.trans (hbx.mono (by omega))⟩
          have HS := hid hst
          cases hsl : inB slack 0 1000
          · have HL := hid hsl
            go_wp2_with fail
            refine wp_region_grow (w.heap.size + 1) (by kernel_rfl) (by kernel_rfl) ?_
            repeat (go_big_quiet_step ((first | (go_at_call 63; exact later_same (in_val _ _ _ _ _ (by assumption))) | (go_at_call 91; exact later_grow (by omega) (cycle_any _ _ _ _ _ _ _ _ _ (by omega) (by omega) (by omega))))))
            refine wpQuiet_nil ?_
            rintro _ ⟨⟨wx, hbx⟩, rfl⟩
            clear e0 e1 e2 e3 e4 e5 g0 g1 g2 g3 g4 g5
            go_wp2_with fail
            go_ret
            exact ⟨by rw [HE.out]; simp [HD.out, HO.out, HS.out, HL.out]; try rfl, hbl.trans (hbx.mono (by omega))⟩
          have HL := hid hsl
          go_wp2_with fail
          refine wp_region_grow (w.heap.size + 1) (by kernel_rfl) (by kernel_rfl) ?_
          repeat (go_big_quiet_step ((first | (go_at_call 63; exact later_same (in_val _ _ _ _ _ (by assumption))) | (go_at_call 91; exact later_grow (by omega) (cycle_any _ _ _ _ _ _ _ _ _ (by omega) (by omega) (by omega))))))
          refine wpQuiet_nil ?_
          rintro _ ⟨⟨wx, hbx⟩, rfl⟩
          clear e0 e1 e2 e3 e4 e5 g0 g1 g2 g3 g4 g5
          go_wp2_with fail
          go_ret
          exact ⟨by rw [HE.out]; simp [HD.out, HO.out, HS.out, HL.out]; try rfl, hbl.trans (hbx.mono (by omega))⟩
end Go.Proofs.Ytblneiegekdnjaa
