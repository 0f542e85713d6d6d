/-
  FnDiskRead's walk.
-/
import Derived.Test.YtadgknkheachaaaPl
import Derived.Test.YtadgknkheachaaaTornP
namespace Go.Proofs.Ytadgknkheachaaa
open Go.RowKit

set_option maxRecDepth 100000 in
set_option maxHeartbeats 8000000 in
theorem walk_read (A : Option Addr) (n cap : Nat) (w : World) (hD : Calls Try.prog 45 #[.slice A n cap] w (Drawn2 w)) :
    Calls Try.prog 13 #[.slice A n cap] w fun r w' => r = .returned (.bool true) ∧ Below w.heap.size w w' := by
  by_cases hbig : 1048576 < n
  · have hbig2 : (1048576 : Int) < (n : Int) := by omega
    clear hD hbig
    go_enter Try.func13, Try.ntmps13
    go_wp2
    go_ret
    exact ⟨rfl, Below.refl _ _⟩
  have hbig2 : ¬ (1048576 : Int) < (n : Int) := by omega
  clear hbig
  go_enter Try.func13, Try.ntmps13
  have hC := hD
  go_wp2_with (go_at_call 45; refine hC.mono ?_; rintro r w1 ⟨d, A0, c0, B0, e0, n0, rfl, h0, hd, hb1⟩; refine Hid.out ?_)
  refine Lib.hid ?_
  clear hC hD hbig2
  have BB := hb1
  clear hb1
  have b0 := Bx.new w1 25 (.slice A0 d.cells.length c0) (.slice B0 d.waits.length e0) (.bool d.gone)
  have bl : Below w1.heap.size w1 (w1.alloc (.cells #[.slice A0 d.cells.length c0, .slice B0 d.waits.length e0, .bool d.gone] 25)) := bel_new (Below.refl _ _) _
  have h0 := h0.below bl
  have BB := bel_then BB bl
  clear bl
  have hI := fun A B c e W hW => impl_flush A B c e d W hd hW
  by_cases hp : (readD d n0).2 = true
  · obtain ⟨hv, hg, n00, n63⟩ := read_told hp
    have hr := readD_yes hv hg ⟨n00, n63⟩
    have hl := read_flush hv n00 n63
    have h64 := flush_len hv
    obtain ⟨k, rfl⟩ : ∃ k : Nat, n0 = (k : Int) := ⟨n0.toNat, by omega⟩
    rw [Int.toNat_natCast] at hl
    obtain ⟨x, hx⟩ : ∃ x, x = latest d (k : Int) := ⟨_, rfl⟩
    obtain ⟨F, hF⟩ : ∃ F, F = flushD d := ⟨_, rfl⟩
    rw [← hx] at hr hl
    simp only [← hF] at hI hl h64
    have hk64 : k < F.cells.length := by omega
    have hk1 : (k : Int) < (F.cells.length : Int) := by omega
    have hq : (x.toList == x.toList) = true := by simp
    have HR := Lib.hid hr
    have HX := Lib.hid hl
    clear hr hl hx hF hp hv hg h64
    obtain ⟨⟨x00, x01, x02⟩, _⟩ := b0.cells
    have hC := impl_readAt A0 B0 c0 e0 d (k : Int) _ hd h0 HR.out
    go_wp2_with (go_at_call 32; refine hC.mono ?_; rintro r w2 ⟨rfl, hb2⟩; refine Hid.out ?_)
    refine Lib.hid ?_
    clear hC
    clear x00 x01 x02
    have b0 := b0.below hb2
    have h0 := h0.below hb2
    have BB := bel_then BB hb2
    clear hb2
    obtain ⟨⟨x00, x01, x02⟩, _⟩ := b0.cells
    have hC := spec_readAt A0 B0 c0 e0 d (k : Int) _ hd h0 HR.out
    go_wp2_with (go_at_call 31; refine hC.mono ?_; rintro r w3 ⟨rfl, hb3⟩; refine Hid.out ?_)
    refine Lib.hid ?_
    clear hC
    clear x00 x01 x02
    have b0 := b0.below hb3
    have h0 := h0.below hb3
    have BB := bel_then BB hb3
    clear hb3
    obtain ⟨⟨x00, x01, x02⟩, _⟩ := b0.cells
    have hC := hI A0 B0 c0 e0 _ h0
    go_wp2_with (go_at_call 36; refine hC.mono ?_; rintro r w9 ⟨A9, c9, B9, e9, rfl, o9, hb9⟩; refine Hid.out ?_)
    refine Lib.hid ?_
    obtain ⟨g9, off9, rfl, hlt9, hck9⟩ := o9.lies.1.strD k hk64
    rw [← HX.out] at hck9
    clear o9 h0
    have hfl := fld_cells
    go_wp2_with fail
    go_ret
    exact ⟨rfl, bel_then BB hb9⟩
  · obtain ⟨x, hx⟩ : ∃ x, x = (readD d n0).1 := ⟨_, rfl⟩
    have hr : readD d n0 = (x, false) := Prod.ext hx.symm (by simpa using hp)
    have hq : (x.toList == x.toList) = true := by simp
    have HR := Lib.hid hr
    clear hr hx hp
    obtain ⟨⟨x00, x01, x02⟩, _⟩ := b0.cells
    have hC := impl_readAt A0 B0 c0 e0 d n0 _ hd h0 HR.out
    go_wp2_with (go_at_call 32; refine hC.mono ?_; rintro r w2 ⟨rfl, hb2⟩; refine Hid.out ?_)
    refine Lib.hid ?_
    clear hC
    clear x00 x01 x02
    have b0 := b0.below hb2
    have h0 := h0.below hb2
    have BB := bel_then BB hb2
    clear hb2
    obtain ⟨⟨x00, x01, x02⟩, _⟩ := b0.cells
    have hC := spec_readAt A0 B0 c0 e0 d n0 _ hd h0 HR.out
    go_wp2_with (go_at_call 31; refine hC.mono ?_; rintro r w3 ⟨rfl, hb3⟩; refine Hid.out ?_)
    refine Lib.hid ?_
    clear hC
    clear x00 x01 x02
    have b0 := b0.below hb3
    have h0 := h0.below hb3
    have BB := bel_then BB hb3
    clear hb3
    go_wp2_with fail
    go_ret
    exact ⟨rfl, BB⟩
end Go.Proofs.Ytadgknkheachaaa
