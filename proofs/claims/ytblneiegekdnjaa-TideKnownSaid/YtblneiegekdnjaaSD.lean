/- Tide, part SD: all that gauges say, gathered: voices. -/
import Derived.Test.YtblneiegekdnjaaSC
import Derived.Deep.Onto
set_option linter.all false
namespace Go.Proofs.Ytblneiegekdnjaa
open Go.RowKit Go.Shelf
attribute [local go_sem] Oper.semAt_some

theorem A.infoVoice : (Try.prog.info? 127).map (fun i => (i.zero, i.size, i.bytes)) = some (some (.agg #[.int .i64 0, .int .i64 0, .int .i64 0]), 3, 24) := by kernel_rfl
def voiceVals (l : List Voice) : List Value := l.flatMap fun v => [Value.int .i64 v.1, Value.int .i64 v.2.1, Value.int .i64 v.2.2]
theorem voiceVals_snoc (l : List Voice) (v : Voice) : voiceVals (l ++ [v]) = voiceVals l ++ [Value.int .i64 v.1, Value.int .i64 v.2.1, Value.int .i64 v.2.2] := by simp [voiceVals]
theorem voiceVals_get : ∀ (l : List Voice) (i : Nat) (h : i < l.length), (voiceVals l)[i * 3]? = some (.int .i64 l[i].1) ∧ (voiceVals l)[i * 3 + 1]? = some (.int .i64 l[i].2.1) ∧ (voiceVals l)[i * 3 + 2]? = some (.int .i64 l[i].2.2)
  | [], i, h => by simp at h
  | s :: r, 0, h => by simp [voiceVals]
  | s :: r, i + 1, h => by
    have := voiceVals_get r i (by simpa using h)
    have e : voiceVals (s :: r) = Value.int .i64 s.1 :: Value.int .i64 s.2.1 :: Value.int .i64 s.2.2 :: voiceVals r := by simp [voiceVals]
    rw [e, show (i + 1) * 3 = i * 3 + 1 + 1 + 1 by omega]
    simpa using this
/-- Voices in memory, from an address on, if there are any. -/
def VoicesAt (w : World) (a : Option Addr) (l : List Voice) : Prop :=
  l = [] ∨ ∃ b o, a = some ⟨b, o, none⟩ ∧ b < w.heap.size ∧ ∀ i (h : i < l.length), w.cell? ⟨b, o + i * 3, none⟩ = some (.int .i64 l[i].1) ∧ w.cell? ⟨b, o + i * 3 + 1, none⟩ = some (.int .i64 l[i].2.1) ∧ w.cell? ⟨b, o + i * 3 + 2, none⟩ = some (.int .i64 l[i].2.2)
theorem VoicesAt.later {w w' : World} {a : Option Addr} {l : List Voice} {B : Nat} (h : VoicesAt w a l) (hb : Below B w w') (hB : w.heap.size ≤ B) : VoicesAt w' a l := by
  rcases h with h | ⟨b, o, ha, hs, hc⟩
  · exact .inl h
  · have e : ∀ o, w'.cell? ⟨b, o, none⟩ = w.cell? ⟨b, o, none⟩ := fun o => hb.cell (p := ⟨b, o, none⟩) (by show b < B; omega)
    exact .inr ⟨b, o, ha, Nat.lt_of_lt_of_le hs hb.size, fun i hi => ⟨(e _).trans (hc i hi).1, (e _).trans (hc i hi).2.1, (e _).trans (hc i hi).2.2⟩⟩
theorem voicesAt_of_own {w : World} {base : Nat} {T : TypeId} {v : Value} {l : List Voice} (h : w.ownsRow base T 3 v l.length (voiceVals l)) :
    ∃ a cap, v = .slice a l.length cap ∧ VoicesAt w a l := by
  rcases h.2 with ⟨rfl, hn⟩ | ⟨g, cap, cur, rfl, hb, hg, _⟩
  · exact ⟨none, 0, by rw [hn], .inl (List.length_eq_zero_iff.1 hn)⟩
  · refine ⟨_, cap, rfl, .inr ⟨g, 0, rfl, (Array.getElem?_eq_some_iff.1 hg).1, fun i hi => ?_⟩⟩
    have e := voiceVals_get l i hi
    have c1 := h.cells (g := g) rfl _ _ e.1
    have c2 := h.cells (g := g) rfl _ _ e.2.1
    have c3 := h.cells (g := g) rfl _ _ e.2.2
    rw [addr_add0] at c1 c2 c3
    exact ⟨by simpa using c1, by simpa using c2, by simpa using c3⟩

theorem box_appended {W w1 : World} {B : Nat} {t e : TypeId} {size : Nat} {v v' : Value} {k m : Nat} {xs ys : List Value} {tmp : Obj}
    (hv : Boxed W B t v) (hte : t ≠ e) (hrow : W.ownsRow (B + 4) e size v k xs) (hn₀ : B + 4 ≤ W.heap.size) (hown' : w1.ownsRow (B + 4) e size v' m ys) (hgrow : (W.alloc tmp).grownBy w1 v.ownBlock) :
    Boxed w1 B t v ∧ Boxed (w1.setCell ⟨B, 0, none⟩ v') B t v' ∧ (w1.setCell ⟨B, 0, none⟩ v').ownsRow (B + 4) e size v' m ys ∧ KeepsOthers W (w1.setCell ⟨B, 0, none⟩ v') ∧ KeepB B W (w1.setCell ⟨B, 0, none⟩ v') := by
  obtain ⟨h1, h2, _, h4, h5⟩ := hv.appended hte (hrow.mono (by omega : B ≤ B + 4)) (by omega) (Nat.le_refl _) (hown'.mono (by omega : B ≤ B + 4)) hgrow
  refine ⟨h1, h2, hown'.kept (grownBy_setCell' w1 B v') (.inr (h1.not_row hte hown').symm), h4, h5, fun i hi1 hi2 => ?_⟩
  have e1 : (w1.setCell ⟨B, 0, none⟩ v').heap[i]? = w1.heap[i]? := Below.heap_setCell _ _ _ _ (by show i ≠ B; omega)
  have e2 : w1.heap[i]? = (W.alloc tmp).heap[i]? := hgrow.block i (by simp; omega) (fun e => by have := (hrow.lt i e.symm).1; omega)
  rw [e1, e2]
  exact Below.heap_alloc _ _ _ (by omega)

theorem bvoice_own {β : Type} (B : Nat) (t : TypeId) (f : β → Array Value) : Own (fun s W => W.heap[B]? = some (.cells (f s) t (0, 0))) := fun s X Y row hs hg hrow => by
  refine (hg.block B (Array.getElem?_eq_some_iff.1 hs).1 (fun e => ?_)).trans hs
  obtain ⟨o, ho, hc⟩ := hrow B e.symm
  rw [hs] at ho; cases ho; simp [Obj.isCells] at hc

set_option maxRecDepth 100000 in
set_option maxHeartbeats 8000000 in
theorem voices_any (a : Option Addr) (cap : Nat) (gs : List Gau) (t now : Int) (w : World) (hlen : gs.length ≤ 8) (hgood : ∀ i (h : i < gs.length), GauGood gs[i]) (ht : 0 ≤ t ∧ t ≤ 200000) (hgs : GausAt w a gs) :
    Calls Try.prog 76 #[.slice a gs.length cap, .int .i64 t, .int .i64 now] w
      fun e w' => ∃ b c, e = .returned (.slice b (voiceL gs t now gs.length).length c) ∧ VoicesAt w' b (voiceL gs t now gs.length) ∧ Below w.heap.size w w' := by
  obtain ⟨i0, hi, hz0, hz1, hz2⟩ := info_parts A.infoVoice
  refine (callsIn_wide (n := 8)).1 ?_
  refine callsIn_of_wp_marks Try.func76 rfl trivial ?_ rfl
  simp only [Try.ntmps76, List.size_toArray, List.length_cons, List.length_nil, Nat.reduceAdd, Nat.reduceSub, Array.replicate_succ, Array.replicate_zero, List.push_toArray, List.append_toArray, List.nil_append, List.cons_append]
  gi_wp2
  refine ⟨trivial, ?_⟩
  refine (callsIn_wide.2 (speaking_any a gs.length cap t now _)).mono ?_
  rintro e w' ⟨rfl, rfl⟩
  gi_wp2
  have bA := (((Boxed.new w 122 (.slice none 0 0)).alloc (.cells #[.slice a gs.length cap] 48)).alloc (.cells #[.int .i64 t] 3)).alloc (.cells #[.int .i64 now] 3)
  have hB0 : Below w.heap.size w ((((w.alloc (.cells #[.slice none 0 0] 122)).alloc (.cells #[.slice a gs.length cap] 48)).alloc (.cells #[.int .i64 t] 3)).alloc (.cells #[.int .i64 now] 3)) :=
    ((((Below.refl _ w).alloc (Nat.le_refl _) _).alloc (by simp) _).alloc (by simp; omega) _).alloc (by simp; omega) _
  have hsz : ((((w.alloc (.cells #[.slice none 0 0] 122)).alloc (.cells #[.slice a gs.length cap] 48)).alloc (.cells #[.int .i64 t] 3)).alloc (.cells #[.int .i64 now] 3)).heap.size = w.heap.size + 4 := by simp
  obtain ⟨W0, hW0⟩ : ∃ W0, (((w.alloc (.cells #[.slice none 0 0] 122)).alloc (.cells #[.slice a gs.length cap] 48)).alloc (.cells #[.int .i64 t] 3)).alloc (.cells #[.int .i64 now] 3) = W0 := ⟨_, rfl⟩
  have k1 : W0.cell? ⟨w.heap.size + 1, 0, none⟩ = some (.slice a gs.length cap) := by rw [← hW0]; simp [go_sem]
  have k2 : W0.cell? ⟨w.heap.size + 2, 0, none⟩ = some (.int .i64 t) := by rw [← hW0]; simp [go_sem]
  have k3 : W0.cell? ⟨w.heap.size + 3, 0, none⟩ = some (.int .i64 now) := by rw [← hW0]; simp [go_sem]
  rw [hW0] at bA hB0 hsz ⊢
  clear hW0
  refine wpIn_rangeFunc_ownH rfl (by omega) (gf := 120) (lb := #[.pointer (some ⟨w.heap.size + 1, 0, none⟩), .pointer (some ⟨w.heap.size + 1 + 1, 0, none⟩), .pointer (some ⟨w.heap.size + 1 + 2, 0, none⟩)]) rfl trivial (enters_of Try.func120 (by kernel_rfl) rfl)
    (speak_stops (8 - 1) (by omega) w.heap.size cap a gs t now hlen hgood ht W0 k1 k2 k3 (by omega) w (Nat.le_refl _) hB0 hgs) KeepB.trans (KeepB.put (by omega)) (Below.refl _ _) (fun _ => rfl)
    (fun pre W => (∃ v, Boxed W w.heap.size 122 v ∧ W.ownsRow (w.heap.size + 4) 127 3 v pre.length (voiceVals pre) ∧ True) ∧ Below w.heap.size W0 W)
    (fun _ _ _ => False)
    (OwnFrom.and (Own.from (holdsRow_own (w.heap.size + 4) w.heap.size 122 127 3 (fun pre : List Voice => pre.length) (fun pre => voiceVals pre) (fun _ _ => True)) _) (ownFrom_below (by omega) (by omega)))
    (fun _ _ _ _ _ hs _ _ => hs)
    ⟨⟨_, bA, World.ownsRow_nil _ _ _ _, trivial⟩, Below.refl _ _⟩
    (fun x a' W => ∃ Bx, w.heap.size + 4 ≤ Bx ∧ W.heap[Bx]? = some (.cells #[.int .i64 x.1, .int .i64 x.2.1, .int .i64 x.2.2] 127 (0, 0)) ∧ a' = { tmps := #[.slice a gs.length cap, .int .i64 t, .int .i64 now, undef, undef, undef, .slice none 0 0, .pointer (some ⟨w.heap.size, 0, none⟩), .pointer (some ⟨Bx, 0, none⟩), .slice a gs.length cap, .int .i64 t, .int .i64 now, .func (.func 120) #[] #[.pointer (some ⟨w.heap.size + 1, 0, none⟩), .pointer (some ⟨w.heap.size + 1 + 1, 0, none⟩), .pointer (some ⟨w.heap.size + 1 + 2, 0, none⟩)], .agg #[.int .i64 x.1, .int .i64 x.2.1, .int .i64 x.2.2], undef, undef, undef, undef, undef], defers := [] })
    (fun x a' _ X Y row hs hg hr => by obtain ⟨Bx, h1, h2, h3⟩ := hs; exact ⟨Bx, h1, bvoice_own Bx 127 (fun (_ : Unit) => #[.int .i64 x.1, .int .i64 x.2.1, .int .i64 x.2.2]) () X Y row h2 hg (fun r e => (hr r e).2), h3⟩)
    ?assign ?body ?done ?stop
  case assign =>
    rintro l pre x W K ⟨⟨v, hv, hrow, _⟩, hB⟩ hK
    simp only [encV]
    have hs := hB.size
    gi_wp2
    exact hK _ _ ((KeepsOthers.alloc _ _).from _) (KeepB.of_below ((Below.refl _ W).alloc (Nat.le_refl _) _) (by omega)) ⟨⟨v, hv.alloc _, hrow.alloc _, trivial⟩, hB.alloc (by omega) _⟩ ⟨W.heap.size, by omega, World.alloc_heap_new W _, rfl⟩
  case body =>
    rintro l pre x a' W hl ⟨r, hr⟩ ⟨⟨v, hv, hrow, _⟩, hB⟩ ⟨Bx, hBx, bX, rfl⟩ hlt
    have hs := hB.size
    have hc := hv.cell
    have x0 : W.cell? ⟨Bx, 0, none⟩ = some (.int .i64 x.1) := by simp [World.cell?, bX]
    have x1 : W.cell? ⟨Bx, 1, none⟩ = some (.int .i64 x.2.1) := by simp [World.cell?, bX]
    have x2 : W.cell? ⟨Bx, 2, none⟩ = some (.int .i64 x.2.2) := by simp [World.cell?, bX]
    gi_wp2_with (gi_at_builtin; refine wpListIn_append_own _ rfl _ _ 122 rfl (w.heap.size + 4) 127 i0 (.agg #[.int .i64 0, .int .i64 0, .int .i64 0]) 3 24 Try.underlying122 hi hz0 hz1 hz2 rfl (by decide) _ _ _ rfl (hrow.alloc _) ⟨W.heap.size, 0, none⟩ 1 1 [.int .i64 x.1, .int .i64 x.2.1, .int .i64 x.2.2] rfl rfl (by intro j u hj; match j, hj with | 0, hj => simp at hj; subst hj; simp [Addr.add, go_sem] | 1, hj => simp at hj; subst hj; simp [Addr.add, go_sem] | 2, hj => simp at hj; subst hj; simp [Addr.add, go_sem]) (by intro u hu; simp at hu; rcases hu with rfl | rfl | rfl <;> rfl) (by unfold maxLen; omega) (by omega) (by simp; omega) ?_; intro v' w1 hown' hgrow _; obtain ⟨g', cap', rfl⟩ := ownsRow_succ hown'; obtain ⟨hv1, hv2, hr2, hk2, hb2⟩ := box_appended hv (by decide) hrow (by omega) hown' hgrow; have hc1 := hv1.cell; have hf1 := hv1.frozen)
    exact ⟨hk2.from _, hb2, ⟨_, hv2, by rw [voiceVals_snoc]; simpa using hr2, trivial⟩, hB.trans hb2.low⟩
  case done =>
    rintro D ys W hD rfl ⟨⟨v, hv, hrow, _⟩, hB⟩ hK
    have hc := hv.cell
    obtain ⟨b, c, hvb, _⟩ := voicesAt_of_own hrow
    subst hvb
    gi_wp2
    refine ⟨by simp, .inl ⟨_, _, rfl, run_takeDeferred hK, ?_⟩⟩
    have hrow2 := ownsRow_putObj hrow (.deferred none) hK rfl
    obtain ⟨b', c', hvb', hva⟩ := voicesAt_of_own hrow2
    injection hvb' with e1 e2 e3
    subst e1
    refine ⟨_, results_tmp rfl _ _ _, _, _, rfl, hva, hB0.trans (hB.trans (belowK_b (w := W0) (by omega) W D _ _ hD hK rfl rfl))⟩
  case stop =>
    rintro D c pre W _ _ h _
    exact h.elim
end Go.Proofs.Ytblneiegekdnjaa
