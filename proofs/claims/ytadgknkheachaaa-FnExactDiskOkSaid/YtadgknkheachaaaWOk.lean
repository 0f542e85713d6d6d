/-
  FnExactDiskOk, its walk.
-/
import Derived.Test.YtadgknkheachaaaKit
namespace Go.Proofs.Ytadgknkheachaaa
open Go.RowKit

set_option maxRecDepth 100000 in
set_option maxHeartbeats 2000000 in
theorem walk_eok (A B : Option Addr) (c e : Nat) (d : Dk) (w : World) (hn : d.cells.length ≤ maxLen) (hs : ∀ s ∈ d.cells, s.size ≤ maxLen) (hm : d.waits.length ≤ maxLen) (ht : ∀ x ∈ d.waits, x.text.size ≤ maxLen) (hA : DkAt w A B d) :
    Calls Try.prog 4 #[.agg #[.slice A d.cells.length c, .slice B d.waits.length e, .bool d.gone]] w fun r w' => r = .returned (.bool true) ∧ Below w.heap.size w w' := by
  have b0 := Bx.new w 32 (.slice A d.cells.length c) (.slice B d.waits.length e) (.bool d.gone)
  have B0 := bel_new (Below.refl w.heap.size w) (.cells #[.slice A d.cells.length c, .slice B d.waits.length e, .bool d.gone] 32)
  have hS := sz_disk A B c e d 1048576 _ (by omega) (by omega) hn hs hm ht (hA.below B0)
  go_enter Try.func4, Try.ntmps4
  go_wp2_with (go_at_call 27; refine hS.mono ?_; rintro r w1 ⟨z, rfl, hb1, hz⟩; refine Hid.out ?_)
  refine Lib.hid ?_
  have B1 := bel_then B0 hb1
  have b1 := b0.below hb1
  clear hS B0 b0 hb1
  obtain ⟨⟨x0, x1, x2⟩, _⟩ := b1.cells
  by_cases hzz : z < 0
  · go_wp2_with fail
    go_ret
    exact ⟨rfl, B1⟩
  have hz := hz (by omega)
  have hd : Bulk d := ⟨by omega, by omega, hs, ht⟩
  have hT := fun W hW => to_d A B c e d W hd (hA.below (w' := W) hW)
  clear hn hs hm ht hz
  go_wp2_with (go_at_call 29; refine (hT _ B1).mono ?_; rintro r w2 ⟨A2, c2, B2, e2, rfl, o2, hb2⟩; refine Hid.out ?_)
  refine Lib.hid ?_
  have B2' := bel_then B1 hb2
  have b2 := b1.below hb2
  have hO := spec_ok A2 B2 c2 e2 d w2 hd o2.lies
  clear x0 x1 x2 b1 B1 o2 hb2
  go_wp2_with (go_at_call 28; refine hO.mono ?_; rintro r w3 ⟨rfl, hb3⟩; refine Hid.out ?_)
  refine Lib.hid ?_
  have B3 := bel_then B2' hb3
  have b3 := b2.below hb3
  clear B2' b2 hO hb3
  obtain ⟨⟨x0, x1, x2⟩, _⟩ := b3.cells
  go_wp2_with (go_at_call 29; refine (hT _ B3).mono ?_; rintro r w4 ⟨A4, c4, B4, e4, rfl, o4, hb4⟩; refine Hid.out ?_)
  refine Lib.hid ?_
  have B4' := bel_then B3 hb4
  have b4 := b3.below hb4
  clear x0 x1 x2 b3 B3 hb4
  have bx := Bx.new w4 25 (.slice A4 d.cells.length c4) (.slice B4 d.waits.length e4) (.bool d.gone)
  have s4 := b4.lt
  have b5 := b4.alloc (.cells #[.slice A4 d.cells.length c4, .slice B4 d.waits.length e4, .bool d.gone] 25)
  have B5 := bel_new B4' (.cells #[.slice A4 d.cells.length c4, .slice B4 d.waits.length e4, .bool d.gone] 25)
  have o5 := o4.below ((Below.refl _ _).alloc (Nat.le_refl _) (.cells #[.slice A4 d.cells.length c4, .slice B4 d.waits.length e4, .bool d.gone] 25))
  have hI := impl_dok A4 B4 c4 e4 d _ hd o5.lies
  clear b4 B4' o4
  go_wp2_with (go_at_call 30; refine hI.mono ?_; rintro r w6 ⟨rfl, hb6⟩; refine Hid.out ?_)
  refine Lib.hid ?_
  have B6 := bel_then B5 hb6
  have b6 := b5.below hb6
  have bx6 := bx.below hb6
  have o6 := o5.below hb6
  clear b5 B5 o5 hI hb6 bx
  have hne : (okD d != okD d) = false := by simp
  obtain ⟨ok, hok⟩ : ∃ ok, ok = okD d := ⟨_, rfl⟩
  rw [← hok] at hne
  rw [← hok]
  clear hok
  obtain ⟨⟨x0, x1, x2⟩, _⟩ := b6.cells
  obtain ⟨⟨y0, y1, y2⟩, _⟩ := bx6.cells
  have hT6 := hT w6.drew B6.drew
  clear hT
  go_upto_region 10 with fail
  have o6d : DkOwn w6.drew _ _ d := o6
  clear o6 b6
  first
    | go_region_with (first
      | (go_at_call 29; refine hT6.mono ?_; rintro r w7 ⟨A7, c7, B7, e7, rfl, o7, hb7⟩; obtain ⟨⟨y0, y1, y2⟩, _⟩ := (bx6.drew.below hb7).cells; have E := eq_own hd.cells hd.waits (o6d.below hb7) o7)
      | (go_at_call 24; refine E.mono ?_; rintro r w8 ⟨rfl, hb8⟩))
    | fail "region"
  all_goals go_wp2_with fail
  all_goals go_ret
  all_goals exact ⟨rfl, bel_then (bel_then B6.drew hb7) hb8⟩
end Go.Proofs.Ytadgknkheachaaa
