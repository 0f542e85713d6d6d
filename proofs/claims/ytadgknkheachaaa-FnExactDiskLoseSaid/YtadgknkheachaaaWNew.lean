/-
  FnExactDiskNew and FnExactDiskLose, their walks.
-/
import Derived.Test.YtadgknkheachaaaNew
namespace Go.Proofs.Ytadgknkheachaaa
open Go.RowKit

set_option maxRecDepth 100000 in
set_option maxHeartbeats 4000000 in
theorem walk_enew (w : World) : Calls Try.prog 3 #[] w fun r w' => r = .returned (.bool true) ∧ Below w.heap.size w w' := by
  have hN := fun w => spec_new w
  have hI := fun w => impl_new w
  have hn : newD.cells.length ≤ 1048576 := by show 64 ≤ _; omega
  have hm : newD.waits.length ≤ 1048576 := by show 0 ≤ _; omega
  obtain ⟨d, hd⟩ : ∃ d, d = newD := ⟨_, rfl⟩
  rw [← hd] at hN hI hn hm
  clear hd
  have nn : ¬ (1 + (d.cells.length : Int) + 2 * (d.waits.length : Int)) < 0 := by omega
  have nq : ((1 + (d.cells.length : Int) + 2 * (d.waits.length : Int)) != (1 + (d.cells.length : Int) + 2 * (d.waits.length : Int))) = false := by simp
  go_enter Try.func3, Try.ntmps3
  go_wp2_with (go_at_call 22; refine (hN _).mono ?_; rintro r w1 ⟨A1, c1, B1, e1, rfl, o1, hb1⟩; refine Hid.out ?_)
  refine Lib.hid ?_
  have i1 := o1.in_
  have b1 := Bx.new w1 25 (.slice A1 d.cells.length c1) (.slice B1 d.waits.length e1) (.bool d.gone)
  have bl : Below w1.heap.size w1 (w1.alloc (.cells #[.slice A1 d.cells.length c1, .slice B1 d.waits.length e1, .bool d.gone] 25)) := (Below.refl _ _).alloc (Nat.le_refl _) _
  have i1 := i1.below bl
  have BB := bel_then hb1 bl
  have s1 := hb1.size
  clear bl o1 hb1 hN
  go_wp2_with (go_at_call 23; refine (hI _).mono ?_; rintro r w2 ⟨A2, c2, B2, e2, rfl, o2, hb2⟩; refine Hid.out ?_)
  refine Lib.hid ?_
  have s2 := hb2.size
  rw [World.size_alloc] at s2
  have i2 := o2.in_
  rw [World.size_alloc] at i2
  have b1 := b1.below hb2
  have i1 := i1.below hb2
  have b2 := Bx.new w2 25 (.slice A2 d.cells.length c2) (.slice B2 d.waits.length e2) (.bool d.gone)
  have bl : Below w2.heap.size w2 (w2.alloc (.cells #[.slice A2 d.cells.length c2, .slice B2 d.waits.length e2, .bool d.gone] 25)) := (Below.refl _ _).alloc (Nat.le_refl _) _
  have BB := bel_then (bel_then BB hb2) bl
  have b1 := b1.below bl
  have i1 := i1.below bl
  have i2 := i2.below bl
  clear bl o2 hb2
  have E := eq_own hn hm i2.own i1.own
  obtain ⟨⟨x0, x1, x2⟩, _⟩ := b1.cells
  obtain ⟨⟨y0, y1, y2⟩, _⟩ := b2.cells
  go_wp2_with (go_at_call 24; refine E.mono ?_; rintro r w3 ⟨rfl, hb3⟩; refine Hid.out ?_)
  refine Lib.hid ?_
  have s3 := hb3.size
  rw [World.size_alloc] at s3
  have BB := bel_then BB hb3
  have b1 := b1.below hb3
  have b2 := b2.below hb3
  have i1 := i1.below hb3
  have i2 := i2.below hb3
  clear E hb3 x0 x1 x2 y0 y1 y2
  have M := mark_disk (w1.heap.size + 1) w2.heap.size _ d w3 hn hm (by omega) i2
  obtain ⟨⟨y0, y1, y2⟩, _⟩ := b2.cells
  clear i2
  go_wp2_with (go_at_call 25; refine M.mono ?_; rintro r w4 ⟨rfl, i2, on⟩; refine Hid.out ?_)
  refine Lib.hid ?_
  have s4 := on.size
  have BB := BB.trans (on.below (B := w.heap.size) (by omega) (by omega))
  have b1 := b1.only on (by omega)
  have b2 := b2.only on (by omega)
  have i1 := i1.only on (.inr (by omega))
  clear M on y0 y1 y2
  have H := held_disk _ _ d w4 hn hm i2.own
  obtain ⟨⟨y0, y1, y2⟩, _⟩ := b2.cells
  go_wp2_with (go_at_call 26; refine H.mono ?_; rintro r w5 ⟨rfl, hb5⟩; refine Hid.out ?_)
  refine Lib.hid ?_
  have s5 := hb5.size
  have BB := BB.trans (hb5.mono (by omega))
  have b1 := b1.below hb5
  have b2 := b2.below hb5
  have i1 := i1.below hb5
  have i2 := i2.below hb5
  clear H hb5 y0 y1 y2
  go_wp2_with (go_at_call 23; refine (hI _).mono ?_; rintro r w6 ⟨A6, c6, B6, e6, rfl, o6, hb6⟩; refine Hid.out ?_)
  refine Lib.hid ?_
  have s6 := hb6.size
  have b1 := b1.below hb6
  have b2 := b2.below hb6
  have i1 := i1.below hb6
  have i2 := i2.below hb6
  have b6 := Bx.new w6 25 (.slice A6 d.cells.length c6) (.slice B6 d.waits.length e6) (.bool d.gone)
  have bl : Below w6.heap.size w6 (w6.alloc (.cells #[.slice A6 d.cells.length c6, .slice B6 d.waits.length e6, .bool d.gone] 25)) := (Below.refl _ _).alloc (Nat.le_refl _) _
  have BB := (BB.trans (hb6.mono (by omega))).trans (bl.mono (by omega))
  have b1 := b1.below bl
  have b2 := b2.below bl
  have i1 := i1.below bl
  have i2 := i2.below bl
  have o6 := o6.below bl
  clear bl hb6 hI
  have E := eq_own hn hm o6 i1.own
  obtain ⟨⟨x0, x1, x2⟩, _⟩ := b1.cells
  obtain ⟨⟨y0, y1, y2⟩, _⟩ := b6.cells
  go_wp2_with (go_at_call 24; refine E.mono ?_; rintro r w7 ⟨rfl, hb7⟩; refine Hid.out ?_)
  refine Lib.hid ?_
  have s7 := hb7.size
  rw [World.size_alloc] at s7
  have BB := BB.trans (hb7.mono (by rw [World.size_alloc]; omega))
  have b2 := b2.below hb7
  have i2 := i2.below hb7
  clear E hb7 x0 x1 x2 y0 y1 y2 b1 i1 b6 o6
  have H := held_disk _ _ d w7 hn hm i2.own
  obtain ⟨⟨y0, y1, y2⟩, _⟩ := b2.cells
  go_wp2_with (go_at_call 26; refine H.mono ?_; rintro r w8 ⟨rfl, hb8⟩)
  go_ret
  exact ⟨rfl, BB.trans (hb8.mono (by omega))⟩

set_option maxRecDepth 100000 in
set_option maxHeartbeats 4000000 in
theorem walk_elose (w : World) : Calls Try.prog 10 #[] w fun r w' => r = .returned (.bool true) ∧ Below w.heap.size w w' := by
  have hN := fun w => spec_lose w
  have hI := fun w => impl_lose w
  have hn : loseD.cells.length ≤ 1048576 := by show 64 ≤ _; omega
  have hm : loseD.waits.length ≤ 1048576 := by show 0 ≤ _; omega
  obtain ⟨d, hd⟩ : ∃ d, d = loseD := ⟨_, rfl⟩
  rw [← hd] at hN hI hn hm
  clear hd
  have nn : ¬ (1 + (d.cells.length : Int) + 2 * (d.waits.length : Int)) < 0 := by omega
  have nq : ((1 + (d.cells.length : Int) + 2 * (d.waits.length : Int)) != (1 + (d.cells.length : Int) + 2 * (d.waits.length : Int))) = false := by simp
  go_enter Try.func10, Try.ntmps10
  go_wp2_with (go_at_call 41; refine (hN _).mono ?_; rintro r w1 ⟨A1, c1, B1, e1, rfl, o1, hb1⟩; refine Hid.out ?_)
  refine Lib.hid ?_
  have i1 := o1.in_
  have b1 := Bx.new w1 25 (.slice A1 d.cells.length c1) (.slice B1 d.waits.length e1) (.bool d.gone)
  have bl : Below w1.heap.size w1 (w1.alloc (.cells #[.slice A1 d.cells.length c1, .slice B1 d.waits.length e1, .bool d.gone] 25)) := (Below.refl _ _).alloc (Nat.le_refl _) _
  have i1 := i1.below bl
  have BB := bel_then hb1 bl
  have s1 := hb1.size
  clear bl o1 hb1 hN
  go_wp2_with (go_at_call 42; refine (hI _).mono ?_; rintro r w2 ⟨A2, c2, B2, e2, rfl, o2, hb2⟩; refine Hid.out ?_)
  refine Lib.hid ?_
  have s2 := hb2.size
  rw [World.size_alloc] at s2
  have i2 := o2.in_
  rw [World.size_alloc] at i2
  have b1 := b1.below hb2
  have i1 := i1.below hb2
  have b2 := Bx.new w2 25 (.slice A2 d.cells.length c2) (.slice B2 d.waits.length e2) (.bool d.gone)
  have bl : Below w2.heap.size w2 (w2.alloc (.cells #[.slice A2 d.cells.length c2, .slice B2 d.waits.length e2, .bool d.gone] 25)) := (Below.refl _ _).alloc (Nat.le_refl _) _
  have BB := bel_then (bel_then BB hb2) bl
  have b1 := b1.below bl
  have i1 := i1.below bl
  have i2 := i2.below bl
  clear bl o2 hb2
  have E := eq_own hn hm i2.own i1.own
  obtain ⟨⟨x0, x1, x2⟩, _⟩ := b1.cells
  obtain ⟨⟨y0, y1, y2⟩, _⟩ := b2.cells
  go_wp2_with (go_at_call 24; refine E.mono ?_; rintro r w3 ⟨rfl, hb3⟩; refine Hid.out ?_)
  refine Lib.hid ?_
  have s3 := hb3.size
  rw [World.size_alloc] at s3
  have BB := bel_then BB hb3
  have b1 := b1.below hb3
  have b2 := b2.below hb3
  have i1 := i1.below hb3
  have i2 := i2.below hb3
  clear E hb3 x0 x1 x2 y0 y1 y2
  have M := mark_disk (w1.heap.size + 1) w2.heap.size _ d w3 hn hm (by omega) i2
  obtain ⟨⟨y0, y1, y2⟩, _⟩ := b2.cells
  clear i2
  go_wp2_with (go_at_call 25; refine M.mono ?_; rintro r w4 ⟨rfl, i2, on⟩; refine Hid.out ?_)
  refine Lib.hid ?_
  have s4 := on.size
  have BB := BB.trans (on.below (B := w.heap.size) (by omega) (by omega))
  have b1 := b1.only on (by omega)
  have b2 := b2.only on (by omega)
  have i1 := i1.only on (.inr (by omega))
  clear M on y0 y1 y2
  have H := held_disk _ _ d w4 hn hm i2.own
  obtain ⟨⟨y0, y1, y2⟩, _⟩ := b2.cells
  go_wp2_with (go_at_call 26; refine H.mono ?_; rintro r w5 ⟨rfl, hb5⟩; refine Hid.out ?_)
  refine Lib.hid ?_
  have s5 := hb5.size
  have BB := BB.trans (hb5.mono (by omega))
  have b1 := b1.below hb5
  have b2 := b2.below hb5
  have i1 := i1.below hb5
  have i2 := i2.below hb5
  clear H hb5 y0 y1 y2
  go_wp2_with (go_at_call 42; refine (hI _).mono ?_; rintro r w6 ⟨A6, c6, B6, e6, rfl, o6, hb6⟩; refine Hid.out ?_)
  refine Lib.hid ?_
  have s6 := hb6.size
  have b1 := b1.below hb6
  have b2 := b2.below hb6
  have i1 := i1.below hb6
  have i2 := i2.below hb6
  have b6 := Bx.new w6 25 (.slice A6 d.cells.length c6) (.slice B6 d.waits.length e6) (.bool d.gone)
  have bl : Below w6.heap.size w6 (w6.alloc (.cells #[.slice A6 d.cells.length c6, .slice B6 d.waits.length e6, .bool d.gone] 25)) := (Below.refl _ _).alloc (Nat.le_refl _) _
  have BB := (BB.trans (hb6.mono (by omega))).trans (bl.mono (by omega))
  have b1 := b1.below bl
  have b2 := b2.below bl
  have i1 := i1.below bl
  have i2 := i2.below bl
  have o6 := o6.below bl
  clear bl hb6 hI
  have E := eq_own hn hm o6 i1.own
  obtain ⟨⟨x0, x1, x2⟩, _⟩ := b1.cells
  obtain ⟨⟨y0, y1, y2⟩, _⟩ := b6.cells
  go_wp2_with (go_at_call 24; refine E.mono ?_; rintro r w7 ⟨rfl, hb7⟩; refine Hid.out ?_)
  refine Lib.hid ?_
  have s7 := hb7.size
  rw [World.size_alloc] at s7
  have BB := BB.trans (hb7.mono (by rw [World.size_alloc]; omega))
  have b2 := b2.below hb7
  have i2 := i2.below hb7
  clear E hb7 x0 x1 x2 y0 y1 y2 b1 i1 b6 o6
  have H := held_disk _ _ d w7 hn hm i2.own
  obtain ⟨⟨y0, y1, y2⟩, _⟩ := b2.cells
  go_wp2_with (go_at_call 26; refine H.mono ?_; rintro r w8 ⟨rfl, hb8⟩)
  go_ret
  exact ⟨rfl, BB.trans (hb8.mono (by omega))⟩
end Go.Proofs.Ytadgknkheachaaa
