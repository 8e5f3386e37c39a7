/- Tide, part Qc: what more readings make known. -/
import Derived.Test.YtfjankkkeehioaaTQ
set_option linter.all false
namespace Go.Proofs.Ytfjankkkeehioaa
open Go.RowKit

set_option maxRecDepth 100000 in
set_option maxHeartbeats 2000000 in
theorem knows_gt (g : Gau) (p : GPos) (x0 x1 x2 : Int) (w : World) (hok : GauOk w p g) (hx : x2 < x1) :
    Calls Try.prog 13 #[.agg #[.string g.name, .int .i64 g.err, .int .i64 g.rate, .slice p.da g.ds.length p.dc, .slice p.ra g.rs.length p.rc], .agg #[.int .i64 x0, .int .i64 x1, .int .i64 x2]] w
      fun e w' => e = .returned (.bool true) ∧ Below w.heap.size w w' := by
  have HH := hid hok; clear hok
  have key := knowsP g x0 (Int.le_of_lt hx)
  obtain ⟨sa, hsa⟩ : ∃ s, saysP g x0 x2 = s := ⟨_, rfl⟩
  obtain ⟨sb, hsb⟩ : ∃ s, saysP g x0 x1 = s := ⟨_, rfl⟩
  have key : sb.2 = 0 → (sa.2 = 0 → sa.1.1 ≤ sb.1.1 ∧ sb.1.2 ≤ sa.1.2 ∧ sb.1.1 ≤ sb.1.2 ∧ -20000 ≤ sa.1.1 ∧ sa.1.2 ≤ 20000) ∧ sa.2 ≠ 9 := by rw [← hsa, ← hsb]; exact key
  have HA := hid hsa; have HB := hid hsb; have HK := hid key; clear key hsa hsb
  go_enter Try.func13, Try.ntmps13
  go_wp2_with fail
  go_region
  go_wp2_with fail
  generalize hW1 : World.drew (World.alloc (World.alloc w _) _) = W1
  have B1 : Below w.heap.size w W1 := by rw [← hW1]; exact (((Below.refl _ _).alloc (Nat.le_refl _) _).alloc (by simp) _).drew
  have S1 : w.heap.size + 1 < W1.heap.size := by rw [← hW1]; simp
  have hbox : GauBox W1 w.heap.size g p := by rw [← hW1]; exact ⟨by simp [go_sem], by simp [go_sem], by simp [go_sem], by simp [go_sem], by simp [go_sem]⟩
  clear hW1
  refine (saysVal g p _ _ _ _ (HH.out.later B1 (Nat.le_refl _)) HA.out).mono ?_
  rintro e W2 ⟨rfl, B2⟩
  have S2 := B2.size
  have hbox2 := hbox.later B2 (by omega)
  have BW2 : Below w.heap.size w W2 := B1.trans (B2.mono (by omega))
  clear B2 B1 hbox
  have hn : w.heap.size ≠ W2.heap.size := by omega
  have hl : w.heap.size < W2.heap.size := by omega
  obtain ⟨c0, c1, c2, c3, c4⟩ := hbox2
  go_wp2_with fail
  refine (saysVal g p _ _ _ _ (HH.out.later (BW2.alloc (Nat.le_of_lt hl) _) (Nat.le_refl _)) HB.out).mono ?_
  rintro e W3 ⟨rfl, B3⟩
  have S3 := B3.size
  have BW3 : Below w.heap.size w W3 := (BW2.alloc (Nat.le_of_lt hl) _).trans (B3.mono (by simp; omega))
  have a0 : W3.cell? ⟨W2.heap.size, 0, none⟩ = some (.int .i64 sa.1.1) := (B3.cell (p := ⟨W2.heap.size, 0, none⟩) (by simp)).trans (by simp [go_sem])
  have a1 : W3.cell? ⟨W2.heap.size, 1, none⟩ = some (.int .i64 sa.1.2) := (B3.cell (p := ⟨W2.heap.size, 1, none⟩) (by simp)).trans (by simp [go_sem])
  clear B3 c0 c1 c2 c3 c4 BW2 HA HB HH
  simp only [World.size_alloc] at S3
  have hl3 : w.heap.size < W3.heap.size := by omega
  have hl2 : W2.heap.size < W3.heap.size := by omega
  have hn2 : W2.heap.size ≠ W3.heap.size := by omega
  clear S3 hn hl
  by_cases ha : sa.2 = 0 <;> by_cases hb : sb.2 = 0
  · obtain ⟨k, _⟩ := HK.out hb
    have k := k ha
    clear HK
    have q0 : (sa.2 == 0) = true := by simp [ha]
    have q1 : (sb.2 == 0) = true := by simp [hb]
    clear ha hb
    obtain ⟨k1, k2, k3, k4, k5⟩ := k
    go_wp2_with fail
    refine (within_true _ _ _ _ _ ⟨k1, k2⟩).mono ?_
    rintro e W4 ⟨rfl, B4⟩
    have d0 := (B4.cell (p := ⟨W2.heap.size, 0, none⟩) (by simp; omega)).trans ((World.cell?_alloc_lt _ _ _ hl2).trans a0)
    have d1 := (B4.cell (p := ⟨W2.heap.size, 1, none⟩) (by simp; omega)).trans ((World.cell?_alloc_lt _ _ _ hl2).trans a1)
    have e0 : W4.cell? ⟨W3.heap.size, 0, none⟩ = some (.int .i64 sb.1.1) := (B4.cell (p := ⟨W3.heap.size, 0, none⟩) (by simp)).trans (by simp [go_sem])
    have e1 : W4.cell? ⟨W3.heap.size, 1, none⟩ = some (.int .i64 sb.1.2) := (B4.cell (p := ⟨W3.heap.size, 1, none⟩) (by simp)).trans (by simp [go_sem])
    have BW4 : Below w.heap.size w W4 := (BW3.alloc (Nat.le_of_lt hl3) _).trans (B4.mono (by simp; omega))
    clear B4 a0 a1 BW3 k1 k2 hl2 hn2 hl3
    go_wp2_with fail
    refine (awake_any _).mono ?_
    rintro e W5 ⟨rfl, B5⟩
    have BW5 := BW4.trans (B5.mono BW4.size)
    clear B5 BW4 d0 d1 e0 e1
    go_wp2_with fail
    go_ret
    exact ⟨rfl, BW5⟩
  all_goals
    have hq : ¬ (sa.2 = 0 ∧ sb.2 = 0) := by omega
    have hr : ((sa.2 == 0) = false ∧ (sa.2 != 9) = true) ∨ ((sa.2 == 0) = false ∧ (sa.2 != 9) = false ∧ (sb.2 != 0) = true) ∨ ((sa.2 == 0) = true ∧ (sa.2 != 9) = true ∧ (sb.2 == 0) = false) := by
      by_cases h0 : sa.2 = 0
      · exact .inr (.inr ⟨by simp [h0], by simp [h0], by simpa using fun h1 => hq ⟨h0, h1⟩⟩)
      · by_cases h9 : sa.2 = 9
        · exact .inr (.inl ⟨by simp [h9], by simp [h9], by simpa using fun h1 => (HK.out h1).2 h9⟩)
        · exact .inl ⟨by simp [h0], by simp [h9]⟩
    clear hq HK ha hb
    rcases hr with ⟨hr, hs⟩ | ⟨hr, hs, ht⟩ | ⟨hr, hs, ht⟩
    all_goals
      go_wp2_with fail
      refine (awake_any _).mono ?_
      rintro e W5 ⟨rfl, B5⟩
      have BW5 : Below w.heap.size w W5 := (BW3.alloc (Nat.le_of_lt hl3) _).trans (B5.mono (by simp; omega))
      clear B5 BW3
      go_wp2_with fail
      go_ret
      exact ⟨rfl, BW5⟩

end Go.Proofs.Ytfjankkkeehioaa
