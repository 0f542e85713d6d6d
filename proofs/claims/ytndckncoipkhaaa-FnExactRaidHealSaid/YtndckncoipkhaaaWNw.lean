/-
  FnExactRaidNew's walk.
-/
import Derived.Test.YtndckncoipkhaaaRNew
import Derived.Test.YtndckncoipkhaaaRW
namespace Go.Proofs.Ytndckncoipkhaaa
open Go.RowKit

theorem blank_bulk (b : Bool) : Bulk ⟨blank, [], b⟩ := ⟨show blank.length ≤ 1048576 by decide, Nat.zero_le _, fun s hs => by
  have : s = none8 := (List.mem_replicate.1 hs).2
  subst this
  exact Nat.zero_le _, fun x hx => by cases hx⟩
theorem small_new : Small [newD, newD, newD] := ⟨by decide, fun d hd => by
  simp only [List.mem_cons, List.not_mem_nil, or_false, or_self] at hd
  subst hd
  exact blank_bulk false, by decide⟩
set_option maxRecDepth 100000 in
set_option maxHeartbeats 4000000 in
theorem walk_enew (w : World) : Calls Try.prog 3 #[] w fun r w' => r = .returned (.bool true) ∧ Below w.heap.size w w' := by
  have hSp := fun W => spec_rnew W
  have hSp := fun W => (hSp W).mono fun r w' h => h.keep
  have hIm := fun W => impl_rnew W
  have HS := small_new
  obtain ⟨R, hR⟩ : ∃ R, R = [newD, newD, newD] := ⟨_, rfl⟩
  rw [← hR] at hSp hIm HS
  clear hR
  have nq : ¬ (((1 + mkR R : Nat) : Int)) < 0 := by omega
  have nq2 : (((1 + mkR R : Nat) : Int) != ((1 + mkR R : Nat) : Int)) = false := by simp
  have BB := Below.refl w.heap.size w
  go_enter Try.func3, Try.ntmps3
  go_wp2_with (go_at_call 11; refine (hSp _).mono ?_; rintro r w2 ⟨p0, A0, c0, rfl, d0, f0, hb2⟩; refine Hid.out ?_)
  refine Lib.hid ?_
  have sw2 := hb2.size
  have BB := bel_then BB hb2
  clear hb2
  have b0 := B1.new w2 24 (.slice A0 p0.length c0)
  have bl : Below w2.heap.size w2 (w2.alloc (.cells #[.slice A0 p0.length c0] 24)) := (Below.refl _ _).alloc (Nat.le_refl _) _
  have f0 := f0.below bl
  have BB := bel_then BB bl
  clear bl
  go_wp2_with (go_at_call 12; refine (hIm _).mono ?_; rintro r w3 ⟨pg, Ag, cg, rfl, dg, fg, hb3⟩; refine Hid.out ?_)
  refine Lib.hid ?_
  have sw3 := hb3.size
  rw [World.size_alloc] at sw3
  have b0 := b0.below hb3
  have f0 := f0.below hb3
  have BB := bel_then BB hb3
  try rw [World.size_alloc] at fg
  have fg := fg.box
  clear hb3
  have bg := B1.new w3 24 (.slice Ag pg.length cg)
  have bl : Below w3.heap.size w3 (w3.alloc (.cells #[.slice Ag pg.length cg] 24)) := (Below.refl _ _).alloc (Nat.le_refl _) _
  have b0 := b0.below bl
  have f0 := f0.below bl
  have fg := fg.below bl
  have BB := bel_then BB bl
  clear bl
  have E := fun W (hW : Below w.heap.size w W) (h1 : RAt W Ag pg) (h2 : RAt W A0 p0) => eq_two (ca := cg) (cb := c0) HS dg d0 h1 h2
  have E := E _ BB fg.at_ f0.at_
  obtain ⟨x0, _⟩ := bg.cells
  obtain ⟨x1, _⟩ := b0.cells
  go_wp2_with (go_at_call 13; refine (E).mono ?_; rintro r w4 ⟨rfl, hb4⟩; refine Hid.out ?_)
  refine Lib.hid ?_
  have sw4 := hb4.size
  rw [World.size_alloc] at sw4
  have b0 := b0.below hb4
  have bg := bg.below hb4
  have f0 := f0.below hb4
  have fg := fg.below hb4
  have BB := bel_then BB hb4
  clear E x0 x1 hb4
  have M := mark_two HS dg (by omega) fg
  clear fg
  obtain ⟨x0, _⟩ := bg.cells
  go_wp2_with (go_at_call 14; refine (M).mono ?_; rintro r w5 ⟨rfl, fg, on⟩; refine Hid.out ?_)
  refine Lib.hid ?_
  have sw5 := on.size
  have BB := BB.trans (on.below (B := w.heap.size) (by omega) (by omega))
  have b0 := b0.only on (by omega)
  have bg := bg.only on (by omega)
  have f0 := f0.only on (by omega)
  clear M on x0
  have H := held_two HS dg fg
  obtain ⟨x0, _⟩ := bg.cells
  go_wp2_with (go_at_call 15; refine (H).mono ?_; rintro r w6 ⟨rfl, hb6⟩; refine Hid.out ?_)
  refine Lib.hid ?_
  have sw6 := hb6.size
  have b0 := b0.below hb6
  have bg := bg.below hb6
  have f0 := f0.below hb6
  have fg := fg.below hb6
  have BB := bel_then BB hb6
  clear H x0 hb6
  go_wp2_with (go_at_call 12; refine (hIm _).mono ?_; rintro r w7 ⟨ph, Ah, ch, rfl, dh, fh, hb7⟩; refine Hid.out ?_)
  refine Lib.hid ?_
  have sw7 := hb7.size
  have b0 := b0.below hb7
  have bg := bg.below hb7
  have f0 := f0.below hb7
  have fg := fg.below hb7
  have BB := bel_then BB hb7
  have fh := fh.box
  clear hb7
  have bh := B1.new w7 24 (.slice Ah ph.length ch)
  have bl : Below w7.heap.size w7 (w7.alloc (.cells #[.slice Ah ph.length ch] 24)) := (Below.refl _ _).alloc (Nat.le_refl _) _
  have b0 := b0.below bl
  have bg := bg.below bl
  have f0 := f0.below bl
  have fg := fg.below bl
  have fh := fh.below bl
  have BB := bel_then BB bl
  clear bl
  have E := fun W (hW : Below w.heap.size w W) (h1 : RAt W Ah ph) (h2 : RAt W A0 p0) => eq_two (ca := ch) (cb := c0) HS dh d0 h1 h2
  have E := E _ BB fh.at_ f0.at_
  obtain ⟨x0, _⟩ := bh.cells
  obtain ⟨x1, _⟩ := b0.cells
  go_wp2_with (go_at_call 13; refine (E).mono ?_; rintro r w8 ⟨rfl, hb8⟩; refine Hid.out ?_)
  refine Lib.hid ?_
  have sw8 := hb8.size
  rw [World.size_alloc] at sw8
  have b0 := b0.below hb8
  have bg := bg.below hb8
  have bh := bh.below hb8
  have f0 := f0.below hb8
  have fg := fg.below hb8
  have fh := fh.below hb8
  have BB := bel_then BB hb8
  clear E x0 x1 hb8
  have H := held_two HS dg fg
  obtain ⟨x0, _⟩ := bg.cells
  go_wp2_with (go_at_call 15; refine H.mono ?_; rintro r w9 ⟨rfl, hb9⟩)
  go_ret
  exact ⟨rfl, bel_then BB hb9⟩
end Go.Proofs.Ytndckncoipkhaaa
