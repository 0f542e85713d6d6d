/-
  A new store: the specification.
-/
import Derived.Test.YtmnamclndpfjnaaStNa
namespace Go.Proofs.Ytmnamclndpfjnaa
open Go.RowKit

set_option maxRecDepth 100000 in
set_option maxHeartbeats 16000000 in
theorem spec_snew (b : Bool) (w : World) : Calls Try.prog 11 #[.bool b] w (TPost (newSt b) w) := by
  have hmk := makeS
  obtain ⟨Z, hZ⟩ : ∃ Z, Z = zS := ⟨_, rfl⟩
  rw [← hZ] at hmk
  have HZ := Lib.hid hZ
  clear hZ
  have bx := B8.new w 28 (.slice none 0 0) (.slice none 0 0) (.slice none 0 0) (.int .i64 0) (.slice none 0 0) (.int .i64 0) (.slice none 0 0) (.bool false)
  have BX := bel_new (Below.refl w.heap.size w) (.cells #[.slice none 0 0, .slice none 0 0, .slice none 0 0, .int .i64 0, .slice none 0 0, .int .i64 0, .slice none 0 0, .bool false] 28)
  have hN := fun W => spec_new W
  go_enter Try.func11, Try.ntmps11
  go_wp2_with fail
  go_region_with (first | (go_at_call 34; refine (hN _).mono ?_; rintro r w2 ⟨A, c, B, e, rfl, ho, hb⟩; obtain ⟨sb, hsb, ho2⟩ := sb_of ho.two; (try simp only [World.size_alloc, World.size_drew] at hsb); have b2 := B8.below (by first | exact bx | exact (bx).alloc _ | exact ((bx).alloc _).alloc _ | exact (((bx).alloc _).alloc _).alloc _ | exact B8.drew (bx) | exact B8.drew ((bx).alloc _) | exact B8.drew (((bx).alloc _).alloc _) | exact B8.drew ((((bx).alloc _).alloc _).alloc _)) hb; have BB := bel_then (by first | exact BX | exact bel_new (BX) _ | exact bel_new (bel_new (BX) _) _ | exact bel_new (bel_new (bel_new (BX) _) _) _ | exact Below.drew (BX) | exact Below.drew (bel_new (BX) _) | exact Below.drew (bel_new (bel_new (BX) _) _) | exact Below.drew (bel_new (bel_new (bel_new (BX) _) _) _)) hb; obtain ⟨y0, y1, y2, y3, y4, y5, y6, y7⟩ := b2.cells; obtain ⟨f0, f1, f2, f3, f4, f5, f6, f7⟩ := b2.fro; have hz := b2.lt; have q1 : w.heap.size < w2.heap.size + 1 := (by omega); have q2 : w.heap.size < w2.heap.size + 1 + 1 := (by omega); have q3 : w.heap.size < w2.heap.size + 1 + 1 + 1 := (by omega)))
  all_goals go_wp2_with fail
  all_goals clear hN hmk y0 y1 y2 y3 y4 y5 y6 y7 f0 f1 f2 f3 f4 f5 f6 f7 q1 q2 q3
  all_goals have sz2 := hb.size
  all_goals simp only [World.size_alloc, World.size_drew] at sz2
  all_goals obtain rfl := HZ.out
  all_goals (
    refine snew_end (sb := sb) (st := w2.heap.size) ?h1 ?h2 ?h3 ?h4 ?h5 ?h6 ?h7
    case h2 =>
      repeat (with_reducible refine Own.alloc ?_ _)
      with_reducible exact set8_own ho2 (by omega)
    case h1 =>
      repeat (with_reducible refine B8.alloc ?_ _)
      with_reducible exact set8_box b2
    case h3 =>
      repeat (with_reducible refine bel_new ?_ _)
      with_reducible exact set8_bel BB (Nat.le_refl _)
    case h4 => (repeat (first | (with_reducible refine hnw ?_; simp only [World.size_alloc, World.size_drew, size_set]; done) | (with_reducible refine hal ?_) | (with_reducible refine set8_heap (by omega) ?_) | (with_reducible refine (hb.block _ (by simp only [World.size_alloc, World.size_drew]; omega)).trans ?_) | (with_reducible refine hdr ?_)))
    case h5 => (repeat (first | (with_reducible refine hnw ?_; simp only [World.size_alloc, World.size_drew, size_set]; done) | (with_reducible refine hal ?_) | (with_reducible refine set8_heap (by omega) ?_) | (with_reducible refine (hb.block _ (by simp only [World.size_alloc, World.size_drew]; omega)).trans ?_) | (with_reducible refine hdr ?_)))
    case h6 => (repeat (first | (with_reducible refine hnw ?_; simp only [World.size_alloc, World.size_drew, size_set]; done) | (with_reducible refine hal ?_) | (with_reducible refine set8_heap (by omega) ?_) | (with_reducible refine (hb.block _ (by simp only [World.size_alloc, World.size_drew]; omega)).trans ?_) | (with_reducible refine hdr ?_)))
    case h7 => (simp only [World.size_alloc, World.size_drew, size_set]; omega))
end Go.Proofs.Ytmnamclndpfjnaa
