/-
  FnDiskOk's walk.
-/
import Derived.Test.YtadgknkheachaaaPl
import Derived.Test.YtadgknkheachaaaDrP
namespace Go.Proofs.Ytadgknkheachaaa
open Go.RowKit

set_option maxRecDepth 100000 in
set_option maxHeartbeats 8000000 in
theorem walk_valid (A : Option Addr) (n cap : Nat) (w : World) (hD : Calls Try.prog 44 #[.slice A n cap] w (DrawnPost w)) :
    Calls Try.prog 12 #[.slice A n cap] w fun r w' => r = .returned (.bool true) ∧ Below w.heap.size w w' := by
  by_cases hbig : 1048576 < n
  · have hbig2 : (1048576 : Int) < (n : Int) := by omega
    clear hD hbig
    go_enter Try.func12, Try.ntmps12
    go_wp2
    go_ret
    exact ⟨rfl, Below.refl _ _⟩
  have hbig2 : ¬ (1048576 : Int) < (n : Int) := by omega
  clear hbig
  go_enter Try.func12, Try.ntmps12
  have hC := hD
  go_wp2_with (go_at_call 44; refine hC.mono ?_; rintro r w1 ⟨d, A0, c0, B0, e0, rfl, h0, hd, hb1⟩; refine Hid.out ?_)
  refine Lib.hid ?_
  clear hC hD hbig2
  have BB := hb1
  clear hb1
  have b0 := Bx.new w1 25 (.slice A0 d.cells.length c0) (.slice B0 d.waits.length e0) (.bool d.gone)
  have bl : Below w1.heap.size w1 (w1.alloc (.cells #[.slice A0 d.cells.length c0, .slice B0 d.waits.length e0, .bool d.gone] 25)) := bel_new (Below.refl _ _) _
  have h0 := h0.below bl
  have BB := bel_then BB bl
  clear bl
  have hI := fun A B c e W hW => impl_flush A B c e d W hd hW
  have hkF := bulk_flush hd
  by_cases hok : DkOk d
  · have hb : okD d = true := (okD_iff _).2 hok
    have hbF : okD (flushD d) = true := (okD_iff _).2 (by rw [flushD_yes hok]; exact crash_valid hok _ _)
    have hl := flush_len hok
    have hpos : 0 < (flushD d).cells.length := by omega
    obtain ⟨F, hF⟩ : ∃ F, F = flushD d := ⟨_, rfl⟩
    simp only [← hF] at hI hkF hbF hpos
    clear hl hF hok
    have HO := Lib.hid hb
    have HF := Lib.hid hbF
    clear hb hbF
    obtain ⟨⟨x00, x01, x02⟩, _⟩ := b0.cells
    have hC := impl_okAt A0 B0 c0 e0 d _ hd h0 HO.out
    go_wp2_with (go_at_call 30; refine hC.mono ?_; rintro r w2 ⟨rfl, hb2⟩; refine Hid.out ?_)
    refine Lib.hid ?_
    clear hC
    clear x00 x01 x02
    have b0 := b0.below hb2
    have h0 := h0.below hb2
    have BB := bel_then BB hb2
    clear hb2
    obtain ⟨⟨x00, x01, x02⟩, _⟩ := b0.cells
    have hC := spec_okAt A0 B0 c0 e0 d _ hd h0 HO.out
    go_wp2_with (go_at_call 28; refine hC.mono ?_; rintro r w3 ⟨rfl, hb3⟩; refine Hid.out ?_)
    refine Lib.hid ?_
    clear hC
    clear x00 x01 x02
    have b0 := b0.below hb3
    have h0 := h0.below hb3
    have BB := bel_then BB hb3
    clear hb3
    obtain ⟨⟨x00, x01, x02⟩, _⟩ := b0.cells
    have hC := hI A0 B0 c0 e0 _ h0
    go_wp2_with (go_at_call 36; refine hC.mono ?_; rintro r w4 ⟨A1, c1, B1, e1, rfl, o1, hb4⟩; refine Hid.out ?_)
    refine Lib.hid ?_
    clear hC hI
    clear x00 x01 x02
    have b0 := b0.below hb4
    have h0 := h0.below hb4
    have BB := bel_then BB hb4
    clear hb4
    have h1 := o1.lies
    clear o1
    have b1 := Bx.new w4 25 (.slice A1 F.cells.length c1) (.slice B1 F.waits.length e1) (.bool F.gone)
    have bl : Below w4.heap.size w4 (w4.alloc (.cells #[.slice A1 F.cells.length c1, .slice B1 F.waits.length e1, .bool F.gone] 25)) := bel_new (Below.refl _ _) _
    have b0 := b0.below bl
    have h0 := h0.below bl
    have h1 := h1.below bl
    have BB := bel_then BB bl
    clear bl
    obtain ⟨⟨x10, x11, x12⟩, _⟩ := b1.cells
    have hC := impl_okAt A1 B1 c1 e1 F _ hkF h1 HF.out
    go_wp2_with (go_at_call 30; refine hC.mono ?_; rintro r w9 ⟨rfl, hb9⟩)
    go_ret
    exact ⟨rfl, bel_then BB hb9⟩
  · have hb := okD_no hok
    have hl := flush_none hok
    have hneg : ¬ 0 < (flushD d).cells.length := by omega
    obtain ⟨F, hF⟩ : ∃ F, F = flushD d := ⟨_, rfl⟩
    simp only [← hF] at hI hkF hneg
    clear hl hF hok
    have HO := Lib.hid hb
    clear hb
    obtain ⟨⟨x00, x01, x02⟩, _⟩ := b0.cells
    have hC := impl_okAt A0 B0 c0 e0 d _ hd h0 HO.out
    go_wp2_with (go_at_call 30; refine hC.mono ?_; rintro r w2 ⟨rfl, hb2⟩; refine Hid.out ?_)
    refine Lib.hid ?_
    clear hC
    clear x00 x01 x02
    have b0 := b0.below hb2
    have h0 := h0.below hb2
    have BB := bel_then BB hb2
    clear hb2
    obtain ⟨⟨x00, x01, x02⟩, _⟩ := b0.cells
    have hC := spec_okAt A0 B0 c0 e0 d _ hd h0 HO.out
    go_wp2_with (go_at_call 28; refine hC.mono ?_; rintro r w3 ⟨rfl, hb3⟩; refine Hid.out ?_)
    refine Lib.hid ?_
    clear hC
    clear x00 x01 x02
    have b0 := b0.below hb3
    have h0 := h0.below hb3
    have BB := bel_then BB hb3
    clear hb3
    obtain ⟨⟨x00, x01, x02⟩, _⟩ := b0.cells
    have hC := hI A0 B0 c0 e0 _ h0
    go_wp2_with (go_at_call 36; refine hC.mono ?_; rintro r w4 ⟨A1, c1, B1, e1, rfl, o1, hb4⟩; refine Hid.out ?_)
    refine Lib.hid ?_
    clear hC hI
    clear x00 x01 x02
    have b0 := b0.below hb4
    have h0 := h0.below hb4
    have BB := bel_then BB hb4
    clear hb4
    have h1 := o1.lies
    clear o1
    have b1 := Bx.new w4 25 (.slice A1 F.cells.length c1) (.slice B1 F.waits.length e1) (.bool F.gone)
    have bl : Below w4.heap.size w4 (w4.alloc (.cells #[.slice A1 F.cells.length c1, .slice B1 F.waits.length e1, .bool F.gone] 25)) := bel_new (Below.refl _ _) _
    have b0 := b0.below bl
    have h0 := h0.below bl
    have h1 := h1.below bl
    have BB := bel_then BB bl
    clear bl
    obtain ⟨⟨x10, x11, x12⟩, _⟩ := b1.cells
    go_wp2_with fail
    go_ret
    exact ⟨rfl, BB⟩
end Go.Proofs.Ytadgknkheachaaa
