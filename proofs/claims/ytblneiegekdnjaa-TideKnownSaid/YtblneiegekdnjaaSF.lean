/- Tide, part SF: the ends of what is said, in order: inOrder. -/
import Derived.Test.YtblneiegekdnjaaSE
import Derived.Shelf.SlSortCmp.NoneTotal
import Derived.Laws.OwnMore
set_option linter.all false
namespace Go.Proofs.Ytblneiegekdnjaa
open Go.RowKit Go.Shelf

theorem A.infoEnd : (Try.prog.info? 150).map (fun i => (i.zero, i.size, i.bytes)) = some (some (.agg #[.int .i64 0, .int .i64 0]), 2, 16) := by kernel_rfl
/-- The sort at no element. -/
theorem sortEnds_none (p : Option Addr) (cap : Nat) (fv : Value) (w : World) :
    Calls Try.prog 116 #[.slice p 0 cap, fv] w fun e w' => e = .returned (.tuple #[]) ∧ w' = w := by
  have hcon := AnyF.slices_SortFunc_none Try.sortEnd p cap fv w
  exact hcon
theorem sortWorld_below (w : World) (blk n B : Nat) (d : Array (Int × Int)) (os : Array Obj) (hB : B ≤ blk) (hlt : blk < w.heap.size) : Below B w (sortWorldK encE 2 w blk 0 n d os) := by
  have hs : (Go.Sort.putRowK encE 2 (Sort.ahead w n) blk 0 d).heap.size = w.heap.size := by simp [Go.Sort.putRowK, Go.Sort.putRow, Go.Sort.mapBlock, Sort.ahead]
  refine ⟨rfl, rfl, rfl, ?_, fun k hk => ?_⟩
  · show w.heap.size ≤ (_ ++ os).size
    rw [Array.size_append, hs]; omega
  · show (_ ++ os)[k]? = _
    rw [Array.getElem?_append_left (by rw [hs]; omega)]
    show ((Sort.ahead w n).heap.modify blk _)[k]? = _
    rw [Array.getElem?_modify, if_neg (by omega)]
    rfl
/-- Ends in memory, from an address on, if there are any: as spans. -/
theorem holdsK_of_spans {w : World} {b : Nat} {l : List (Int × Int)} (hc : ∀ i (h : i < l.length), w.cell? ⟨b, i * 2, none⟩ = some (.int .i64 l[i].1) ∧ w.cell? ⟨b, i * 2 + 1, none⟩ = some (.int .i64 l[i].2)) (hf : ∀ j, w.frozen? ⟨b, j, none⟩ = false) : Go.Sort.HoldsK encE 2 w b 0 l.toArray := by
  intro j hj
  rw [Go.Sort.size_flatK] at hj
  simp only [List.size_toArray] at hj
  refine ⟨?_, hf _⟩
  rw [Go.Sort.get_flatK _ _ _ _ (by simpa using hj), Nat.zero_add]
  have hi : j / 2 < l.length := by omega
  have e : l.toArray[j / 2]! = l[j / 2] := by simp [hi]
  rw [e]
  rcases Nat.mod_two_eq_zero_or_one j with h | h
  · have h1 := (hc _ hi).1
    rw [show j / 2 * 2 = j by omega] at h1
    rw [h]; exact h1
  · have h1 := (hc _ hi).2
    rw [show j / 2 * 2 + 1 = j by omega] at h1
    rw [h]; exact h1
theorem perm_of_permIn {d d' : Array (Int × Int)} (h : Sort.PermIn 0 d.size d d') : d'.toList.Perm d.toList := by
  obtain ⟨h1, _, h3⟩ := h
  have e1 : d'.extract 0 d.size = d' := by rw [← h1]; simp
  have e2 : d.extract 0 d.size = d := by simp
  rwa [e1, e2] at h3
theorem pairwise_of_sorted {d : Array (Int × Int)} (h : Sort.SortedIn (ltOf cfE) 0 d.size d) : d.toList.Pairwise EndLe := by
  rw [List.pairwise_iff_getElem]
  intro i j hi hj hij
  have hi' : i < d.size := by simpa using hi
  have hj' : j < d.size := by simpa using hj
  have := h i j (Nat.zero_le _) hij hj'
  rw [ltOf_cfE] at this
  simp only [getElem!_pos d i hi', getElem!_pos d j hj', decide_eq_false_iff_not] at this
  unfold EndLe
  simp only [Array.getElem_toList]
  omega

theorem ends_any (a b : Int) (w : World) :
    Calls Try.prog 115 #[.agg #[.int .i64 a, .int .i64 b]] w fun e w' => e = .returned (.agg #[.int .i64 a, .int .i64 0, .int .i64 b, .int .i64 1]) ∧ Below w.heap.size w w' := by
  go_enter Try.func115, Try.ntmps115
  go_wp2
  exact bodyPost_ret (v := .agg #[.int .i64 a, .int .i64 0, .int .i64 b, .int .i64 1]) (by simp [results, Try.results115, go_sem]) rfl ⟨rfl, by repeat (first | exact Below.refl _ _ | refine Below.alloc ?_ (by simp <;> omega) _ | refine Below.setCell ?_ (by simp <;> omega) _ | refine Below.drew ?_ | refine below_drewN ?_ _)⟩

theorem idx0 (a b : Int) (w : World) : Sem.run Try.prog (Instr.index 157 (.agg #[.int .i64 a, .int .i64 0, .int .i64 b, .int .i64 1]) (.int .i64 0)) w = .ok (.agg #[.int .i64 a, .int .i64 0]) w := by simp [go_sem, Instr.index]
theorem idx1 (a b : Int) (w : World) : Sem.run Try.prog (Instr.index 157 (.agg #[.int .i64 a, .int .i64 0, .int .i64 b, .int .i64 1]) (.int .i64 1)) w = .ok (.agg #[.int .i64 b, .int .i64 1]) w := by simp [go_sem, Instr.index]
set_option maxRecDepth 100000 in
set_option maxHeartbeats 8000000 in
theorem inOrder_any (a : Option Addr) (cap : Nat) (V : List Voice) (w : World) (hlen : V.length ≤ 8) (hV : VoicesAt w a V) :
    Calls Try.prog 108 #[.slice a V.length cap] w
      fun e w' => ∃ b c E, e = .returned (.slice b (2 * V.length) c) ∧ (∀ ad, b = some ad → w.heap.size ≤ ad.block) ∧ E.length = 2 * V.length ∧ SpansAt w' b E ∧ E.Perm (endsOf V) ∧ E.Pairwise EndLe ∧ Below w.heap.size w w' := by
  obtain ⟨i0, hi, hz0, hz1, hz2⟩ := info_parts A.infoEnd
  have HV := hid hV; clear hV
  go_enter Try.func108, Try.ntmps108
  go_wp2_with fail
  go_loopw [3, 5, 10] (fun s3 _ i wr => ∃ (k : Nat) (v : Value), v = s3 ∧ k ≤ V.length ∧ i = .int .i64 k ∧ Hid (wr.ownsRow w.heap.size 150 2 v (2 * k) (spanVals (endsOf (V.take k)))) ∧ Below w.heap.size w wr) (fun _ _ i _ => V.length - (intOf i).toNat)
  case atStart => exact ⟨0, _, rfl, Nat.zero_le _, rfl, hid (World.ownsRow_nil _ _ _ _), Below.refl _ _⟩
  case round =>
    obtain ⟨k, v, rfl, hk, rfl, hown, hbw⟩ := hrel
    by_cases hlt : k < V.length
    · rcases HV.out.later hbw (Nat.le_refl _) with h0 | ⟨b, o, rfl, hs, hc⟩
      · rw [h0] at hlt; simp at hlt
      obtain ⟨c0, c1, c2⟩ := hc k hlt
      have HT := hid (show endsOf (V.take (k + 1)) = endsOf (V.take k) ++ [(V[k].1, 0), (V[k].2.1, 1)] by rw [List.take_succ_eq_append_getElem hlt, endsOf_append]; rfl)
      have hkI : (k : Int) < (V.length : Int) := by omega
      clear hc
      generalize V[k] = x at *
      have lw := hbw.size
      go_wp2_with fail
      refine (ends_any _ _ _).mono ?_
      rintro e W2 ⟨rfl, B2⟩
      have l2 : wr.heap.size < W2.heap.size := by have := B2.size; simp at this; omega
      have BX : Below wr.heap.size wr W2 := ((Below.refl _ _).alloc (Nat.le_refl _) _).trans (B2.mono (by simp))
      have HO := hid (ownsRow_below hown.out BX)
      have BW2 : Below w.heap.size w W2 := hbw.trans (BX.mono lw)
      clear B2 c0 c1 c2 hown
      go_wp2_with fail
      go_loopw [3, 7, 17] (fun s3 _ i wx => ∃ (m : Nat) (v : Value), v = s3 ∧ m ≤ 2 ∧ i = .int .i64 m ∧ Hid (wx.ownsRow w.heap.size 150 2 v (2 * k + m) (spanVals (endsOf (V.take k) ++ [(x.1, 0), (x.2.1, 1)].take m))) ∧ Below w.heap.size w wx) (fun _ _ i _ => 2 - (intOf i).toNat)
      case atStart => exact ⟨0, _, rfl, by omega, rfl, hid (by simpa using HO.out), BW2⟩
      case round =>
        obtain ⟨m, v, rfl, hm, rfl, hown, hbx⟩ := hrel
        have lx := hbx.size
        match m, hm with
        | 0, _ =>
          have hix := idx0 x.1 x.2.1 wr
          go_wp2_with (at_builtin; refine wpList_append_own _ rfl _ _ 147 rfl w.heap.size 150 i0 (.agg #[.int .i64 0, .int .i64 0]) 2 16 Try.underlying147 hi hz0 hz1 hz2 rfl (by decide) _ _ _ rfl ((hown.out.alloc _).alloc _) ⟨wr.heap.size + 1, 0, none⟩ 1 1 [.int .i64 x.1, .int .i64 0] rfl rfl (by intro j u hj; match j, hj with | 0, hj => simp at hj; subst hj; simp [Addr.add, go_sem] | 1, hj => simp at hj; subst hj; simp [Addr.add, go_sem]) (by intro u hu; simp at hu; rcases hu with rfl | rfl <;> rfl) (by unfold maxLen; omega) (by omega) (by simp; omega) ?_)
          intro v' w1 hown' hgrow _
          have bV : Below w.heap.size wr w1 := (((Below.refl _ _).alloc lx _).alloc (by simp; omega) _).trans (below_own ((hown.out.alloc _).alloc _) (Nat.le_refl _) (by simp; omega) hgrow)
          have HO' := hid (show w1.ownsRow w.heap.size 150 2 v' (2 * k + 1) (spanVals (endsOf (V.take k) ++ [(x.1, 0), (x.2.1, 1)].take 1)) by
            have e : spanVals (endsOf (V.take k) ++ [(x.1, 0), (x.2.1, 1)].take 1) = spanVals (endsOf (V.take k) ++ [(x.1, 0), (x.2.1, 1)].take 0) ++ [.int .i64 x.1, .int .i64 0] := by simp [spanVals]
            rw [e]; simpa using hown')
          clear hown' hgrow hix
          go_wp2_with fail
          refine ⟨⟨1, _, rfl, by omega, by simp, HO', hbx.trans bV⟩, by simp [intOf]⟩
        | 1, _ =>
          have hix := idx1 x.1 x.2.1 wr
          go_wp2_with (at_builtin; refine wpList_append_own _ rfl _ _ 147 rfl w.heap.size 150 i0 (.agg #[.int .i64 0, .int .i64 0]) 2 16 Try.underlying147 hi hz0 hz1 hz2 rfl (by decide) _ _ _ rfl ((hown.out.alloc _).alloc _) ⟨wr.heap.size + 1, 0, none⟩ 1 1 [.int .i64 x.2.1, .int .i64 1] rfl rfl (by intro j u hj; match j, hj with | 0, hj => simp at hj; subst hj; simp [Addr.add, go_sem] | 1, hj => simp at hj; subst hj; simp [Addr.add, go_sem]) (by intro u hu; simp at hu; rcases hu with rfl | rfl <;> rfl) (by unfold maxLen; omega) (by omega) (by simp; omega) ?_)
          intro v' w1 hown' hgrow _
          have bV : Below w.heap.size wr w1 := (((Below.refl _ _).alloc lx _).alloc (by simp; omega) _).trans (below_own ((hown.out.alloc _).alloc _) (Nat.le_refl _) (by simp; omega) hgrow)
          have HO' := hid (show w1.ownsRow w.heap.size 150 2 v' (2 * k + 2) (spanVals (endsOf (V.take k) ++ [(x.1, 0), (x.2.1, 1)].take 2)) by
            have e : spanVals (endsOf (V.take k) ++ [(x.1, 0), (x.2.1, 1)].take 2) = spanVals (endsOf (V.take k) ++ [(x.1, 0), (x.2.1, 1)].take 1) ++ [.int .i64 x.2.1, .int .i64 1] := by simp [spanVals]
            rw [e]; exact hown')
          clear hown' hgrow hix
          go_wp2_with fail
          refine ⟨⟨2, _, rfl, by omega, by simp, HO', hbx.trans bV⟩, by simp [intOf]⟩
        | 2, _ =>
          have hown2 := hid (show wr.ownsRow w.heap.size 150 2 v (2 * (k + 1)) (spanVals (endsOf (V.take (k + 1)))) by rw [HT.out]; exact hown.out)
          clear hown
          go_wp2_with fail
          refine ⟨⟨k + 1, _, rfl, by omega, by go_num, hown2, hbx⟩, by simp [intOf]; omega⟩
    · obtain rfl : k = V.length := by omega
      have ho := hown.out
      rw [List.take_length] at ho
      have HO := hid ho
      clear ho hown
      go_wp2_with fail
      by_cases h0 : V.length = 0
      · have hv0 : V = [] := List.length_eq_zero_iff.1 h0
        subst hv0
        rcases HO.out.2 with ⟨rfl, _⟩ | ⟨g, cp, cur, rfl, hgb, _⟩
        all_goals
          refine (sortEnds_none _ _ _ _).mono ?_
          rintro e w' ⟨rfl, rfl⟩
          go_wp2_with fail
          go_ret
          exact ⟨_, _, [], rfl, (fun ad h => by first | (injection h with h; rw [← h]; exact hgb) | cases h), rfl, .inl rfl, List.Perm.refl _, List.Pairwise.nil, hbw⟩
      · have hl := endsOf_len V
        rcases HO.out.2 with ⟨_, h⟩ | ⟨g, cp, cur, rfl, hgb, hgl, _⟩
        · omega
        have hgs : g < wr.heap.size := (Array.getElem?_eq_some_iff.1 hgl).1
        have hcl : ∀ i (h : i < (endsOf V).length), wr.cell? ⟨g, i * 2, none⟩ = some (.int .i64 (endsOf V)[i].1) ∧ wr.cell? ⟨g, i * 2 + 1, none⟩ = some (.int .i64 (endsOf V)[i].2) := fun i hi => by
          have e := spanVals_get (endsOf V) i hi
          have c1 := HO.out.cells (g := g) rfl _ _ e.1
          have c2 := HO.out.cells (g := g) rfl _ _ e.2
          rw [addr_add0] at c1 c2
          exact ⟨c1, c2⟩
        have hH := holdsK_of_spans hcl (fun j => HO.out.frozenAt j)
        have hso := sortEnds g 0 cp (endsOf V).toArray wr hH hgs (by simp; omega)
        have hsz : (endsOf V).toArray.size = 2 * V.length := by simp [hl]
        rw [hsz] at hso
        refine hso.mono ?_
        rintro e w' ⟨rfl, d', n, os, hp, hsd, rfl⟩
        have hds : d'.size = (endsOf V).toArray.size := by rw [hsz]; rw [← hsz] at hp ⊢; exact hp.1
        have hHd := Go.Proofs.holdsK_sortWorldK_c encE 2 wr g 0 (endsOf V).toArray d' n os hH hgs hds
        have BS := sortWorld_below wr g n w.heap.size d' os (by omega) hgs
        have hperm : d'.toList.Perm (endsOf V) := by
          have := perm_of_permIn (d := (endsOf V).toArray) (d' := d') (by rw [hsz]; exact hp)
          simpa using this
        have hpw : d'.toList.Pairwise EndLe := pairwise_of_sorted (by rw [hds, hsz]; exact hsd)
        have hEl : d'.toList.length = 2 * V.length := by simp [hds, hl]
        have hgs2 : g < (sortWorldK encE 2 wr g 0 n d' os).heap.size := Nat.lt_of_lt_of_le hgs BS.size
        have hAt : SpansAt (sortWorldK encE 2 wr g 0 n d' os) (some ⟨g, 0, none⟩) d'.toList := .inr ⟨g, 0, rfl, hgs2, fun i hi => by
          have hi' : i < d'.size := by simpa using hi
          have k1 := (hHd.cell hi' (c := 0) (by omega)).1
          have k2 := (hHd.cell hi' (c := 1) (by omega)).1
          rw [getElem!_pos d' i hi'] at k1 k2
          exact ⟨k1, k2⟩⟩
        generalize sortWorldK encE 2 wr g 0 n d' os = WS at *
        clear hso hH hHd hp hsd hcl
        go_wp2_with fail
        go_ret
        exact ⟨_, _, d'.toList, rfl, (fun ad h => by injection h with h; rw [← h]; exact hgb), hEl, hAt, hperm, hpw, hbw.trans BS⟩
end Go.Proofs.Ytblneiegekdnjaa
