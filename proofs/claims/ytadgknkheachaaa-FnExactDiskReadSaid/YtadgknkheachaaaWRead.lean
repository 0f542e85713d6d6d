/-
  FnExactDiskRead, its walk.
-/
import Derived.Test.YtadgknkheachaaaRdI
import Derived.Test.YtadgknkheachaaaArgs
namespace Go.Proofs.Ytadgknkheachaaa
open Go.RowKit

set_option maxRecDepth 100000 in
set_option maxHeartbeats 8000000 in
theorem walk_eread (A B : Option Addr) (c e : Nat) (d : Dk) (n : Int) (w : World) (hA : DArg w A B d) :
    Calls Try.prog 5 #[.agg #[.slice A d.cells.length c, .slice B d.waits.length e, .bool d.gone], .int .i64 n] w fun r w' => r = .returned (.bool true) ∧ Below w.heap.size w w' := by
  have b0 := Bx.new w 32 (.slice A d.cells.length c) (.slice B d.waits.length e) (.bool d.gone)
  have BB := bel_new (Below.refl w.heap.size w) (.cells #[.slice A d.cells.length c, .slice B d.waits.length e, .bool d.gone] 32)
  have hS := sz_disk A B c e d 1048576 _ (by omega) (by omega) hA.n hA.s hA.m hA.t (hA.at_.below BB)
  obtain ⟨hn, hs, hm, ht, hA⟩ := hA
  go_enter Try.func5, Try.ntmps5
  go_wp2_with (go_at_call 27; refine (hS).mono ?_; rintro r w1 ⟨z, rfl, hb1, hz⟩; refine Hid.out ?_)
  refine Lib.hid ?_
  have b0 := b0.below hb1
  have BB := bel_then BB hb1
  clear hS hb1
  by_cases hzz : z < 0
  · obtain ⟨⟨x0, x1, x2⟩, _⟩ := b0.cells
    go_wp2_with fail
    go_ret
    exact ⟨rfl, BB⟩
  have hz := hz (by omega)
  have hd : Bulk d := ⟨by omega, by omega, hs, ht⟩
  have hT := fun W hW => to_d A B c e d W hd (hA.below (w' := W) hW)
  obtain ⟨s, hs'⟩ : ∃ s, s = (readD d n).1 := ⟨_, rfl⟩
  obtain ⟨b, hb⟩ : ∃ b, b = (readD d n).2 := ⟨_, rfl⟩
  have hSp : ∀ (A B : Option Addr) (c e : Nat) (W : World), DkAt W A B d → Calls Try.prog 31 #[.agg #[.slice A d.cells.length c, .slice B d.waits.length e, .bool d.gone], .int .i64 n] W (fun r w' => r = .returned (.tuple #[.string s, .bool b]) ∧ Below W.heap.size W w') := fun A B c e W hW => by rw [hs', hb]; exact spec_read A B c e d n W hd hW
  have hIm : ∀ (A B : Option Addr) (c e : Nat) (W : World), DkAt W A B d → Calls Try.prog 32 #[.agg #[.slice A d.cells.length c, .slice B d.waits.length e, .bool d.gone], .int .i64 n] W (fun r w' => r = .returned (.tuple #[.string s, .bool b]) ∧ Below W.heap.size W w') := fun A B c e W hW => by rw [hs', hb]; exact impl_read A B c e d n W hd hW
  have hbb : (b != b) = false := by simp
  have hss : (s != s) = false := by unfold bne; rw [show (s == s) = true from by rw [beq_toListBytes]; exact beq_self_eq_true _]; rfl
  clear hs' hb hn hs hm ht hz
  obtain ⟨⟨x0, x1, x2⟩, _⟩ := b0.cells
  go_wp2_with (go_at_call 29; refine (hT _ BB).mono ?_; rintro r w2 ⟨A2, c2, B2, e2, rfl, o2, hb2⟩; refine Hid.out ?_)
  refine Lib.hid ?_
  have b0 := b0.below hb2
  have BB := bel_then BB hb2
  have L := hSp A2 B2 c2 e2 w2 o2.lies
  clear x0 x1 x2 hb2 o2 hSp
  go_wp2_with (go_at_call 31; refine (L).mono ?_; rintro r w3 ⟨rfl, hb3⟩; refine Hid.out ?_)
  refine Lib.hid ?_
  have b0 := b0.below hb3
  have BB := bel_then BB hb3
  clear L hb3
  obtain ⟨⟨x0, x1, x2⟩, _⟩ := b0.cells
  go_wp2_with (go_at_call 29; refine (hT _ BB).mono ?_; rintro r w4 ⟨A4, c4, B4, e4, rfl, o4, hb4⟩; refine Hid.out ?_)
  refine Lib.hid ?_
  have b0 := b0.below hb4
  have BB := bel_then BB hb4
  have ix := o4.in_
  clear x0 x1 x2 hb4 o4
  have bx := Bx.new w4 25 (.slice A4 d.cells.length c4) (.slice B4 d.waits.length e4) (.bool d.gone)
  have bl : Below w4.heap.size w4 (w4.alloc (.cells #[.slice A4 d.cells.length c4, .slice B4 d.waits.length e4, .bool d.gone] 25)) := (Below.refl _ _).alloc (Nat.le_refl _) _
  have BB := bel_then BB bl
  have b0 := b0.below bl
  have ix := ix.below bl
  clear bl
  have L := hIm A4 B4 c4 e4 _ ix.own.lies
  obtain ⟨⟨x0, x1, x2⟩, _⟩ := bx.cells
  go_wp2_with (go_at_call 32; refine (L).mono ?_; rintro r w6 ⟨rfl, hb5⟩; refine Hid.out ?_)
  refine Lib.hid ?_
  have b0 := b0.below hb5
  have bx := bx.below hb5
  have ix := ix.below hb5
  have BB := bel_then BB hb5
  clear L hIm hb5 x0 x1 x2
  obtain ⟨⟨x0, x1, x2⟩, _⟩ := b0.cells
  obtain ⟨⟨y0, y1, y2⟩, _⟩ := bx.cells
  have hTd := hT w6.drew BB.drew
  have ixd : DkIn w6.drew _ _ _ d := ix
  go_upto_region 10 with fail
  first
    | go_region_with (first
      | (go_at_call 29; refine hTd.mono ?_; rintro r w7 ⟨A7, c7, B7, e7, rfl, o7, hb7⟩; obtain ⟨⟨y0, y1, y2⟩, _⟩ := (bx.drew.below hb7).cells; have E := eq_own hd.cells hd.waits (ixd.below hb7).own o7)
      | (go_at_call 24; refine E.mono ?_; rintro r w8 ⟨rfl, hb8⟩))
    | fail "region"
  all_goals go_wp2_with fail
  all_goals go_ret
  all_goals exact ⟨rfl, bel_then (bel_then BB.drew hb7) hb8⟩
end Go.Proofs.Ytadgknkheachaaa
