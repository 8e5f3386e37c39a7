/- Tide, part V: the reference's datum of a reading. -/
import Derived.Test.YtblneiegekdnjaaGreatTL
set_option linter.all false
namespace Go.Proofs.YtblneiegekdnjaaGreat
open Go.RowKit

set_option maxRecDepth 100000 in
set_option maxHeartbeats 1000000 in
theorem rdatum_any (g : Gau) (p : GPos) (t v : Int) (w : World) (hok : GauOk w p g) :
    Calls Tryz.prog 101 #[.agg #[.string g.name, .int .i64 g.err, .int .i64 g.rate, .slice p.da g.ds.length p.dc, .slice p.ra g.rs.length p.rc], .agg #[.int .i64 t, .int .i64 v]] w fun e w' => e = .returned (.int .i64 (dIdx g.ds t g.ds.length)) ∧ Below w.heap.size w w' := by
  have hdl := hok.wf.dlen
  have hdc := hok.wf.dcap
  have HH := hid hok; clear hok
  go_enter Tryz.func101, Tryz.ntmps101
  go_wp2_with fail
  generalize hW1 : World.alloc (World.alloc w _) _ = W1
  have B1 : Below w.heap.size w W1 := by rw [← hW1]; exact ((Below.refl _ _).alloc (Nat.le_refl _) _).alloc (by simp) _
  have S1 : w.heap.size + 1 < W1.heap.size := by rw [← hW1]; simp
  have t3 : W1.cell? ⟨w.heap.size, 3, none⟩ = some (.slice p.da g.ds.length p.dc) := by rw [← hW1]; simp [go_sem]
  have r0 : W1.cell? ⟨w.heap.size + 1, 0, none⟩ = some (.int .i64 t) := by rw [← hW1]; simp [go_sem]
  clear hW1
  go_loopw [5, 6] (fun a i wr => ∃ k : Nat, k ≤ g.ds.length ∧ i = .int .i64 k ∧ a = .int .i64 (dIdx g.ds t k) ∧ Below (w.heap.size + 2) W1 wr) (fun _ i _ => g.ds.length - (intOf i).toNat)
  case atStart => exact ⟨0, Nat.zero_le _, rfl, rfl, Below.refl _ _⟩
  case round =>
    obtain ⟨k, hk, rfl, rfl, hbw⟩ := hrel
    have e3 := (hbw.cell (p := ⟨w.heap.size, 3, none⟩) (by simp)).trans t3
    have f0 := (hbw.cell (p := ⟨w.heap.size + 1, 0, none⟩) (by simp)).trans r0
    have BWr : Below w.heap.size w wr := B1.trans (hbw.mono (by omega))
    clear t3 r0
    by_cases hlt : k < g.ds.length
    · rcases HH.out.ds with h0 | ⟨b, o, hda, hs, hc⟩
      · rw [h0] at hlt; simp at hlt
      obtain ⟨c0, c1, c2⟩ := DatAt.later BWr _ _ _ hs (hc k hlt)
      have HD := hid (show dIdx g.ds t (k + 1) = if g.ds[k].from_ ≤ t then k else dIdx g.ds t k by simp [dIdx, List.getD, hlt])
      clear hc
      rw [hda] at e3
      clear hda
      generalize g.ds[k] = d at *
      generalize dIdx g.ds t k = q at *
      by_cases hle : d.from_ ≤ t
      · have HL := hid hle
        go_wp2_with fail
        go_region
        go_wp2_with fail
        exact ⟨⟨k + 1, by omega, by go_num, by rw [HD.out, if_pos HL.out], hbw.drew⟩, by simp [intOf]; omega⟩
      · have HL := hid hle
        go_wp2_with fail
        go_region
        go_wp2_with fail
        exact ⟨⟨k + 1, by omega, by go_num, by rw [HD.out, if_neg (by have := HL.out; omega)], hbw.drew⟩, by simp [intOf]; omega⟩
    · obtain rfl : k = g.ds.length := by omega
      go_wp2_with fail
      go_ret
      exact ⟨rfl, BWr⟩
end Go.Proofs.YtblneiegekdnjaaGreat
