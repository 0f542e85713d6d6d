/-
  FnDiskLast's walk.
-/
import Derived.Test.YtimpdjlgfjehcaaPl
import Derived.Test.YtimpdjlgfjehcaaConvB
import Derived.Test.YtimpdjlgfjehcaaTornP
namespace Go.Proofs.Ytimpdjlgfjehcaa
open Go.RowKit

set_option maxRecDepth 100000 in
set_option maxHeartbeats 8000000 in
theorem walk_last (A A' : Option Addr) (n cap n' cap' : Nat) (w : World) (hA2 : BytesAt w A' n') (hn2 : n' ≤ cap') (hD : Calls Try.prog 15 #[.slice A n cap] w (Drawn3 w)) :
    Calls Try.prog 5 #[.slice A n cap, .slice A' n' cap'] w fun r w' => r = .returned (.bool true) ∧ Below w.heap.size w w' := by
  by_cases hbig : 1048576 < n
  · have hbig2 : (1048576 : Int) < (n : Int) := by omega
    clear hD hbig
    go_enter Try.func5, Try.ntmps5
    go_wp2
    go_ret
    exact ⟨rfl, Below.refl _ _⟩
  have hbig2 : ¬ (1048576 : Int) < (n : Int) := by omega
  by_cases hbig3 : 1048576 < n'
  · have hbig4 : (1048576 : Int) < (n' : Int) := by omega
    clear hD hbig hbig3
    go_enter Try.func5, Try.ntmps5
    go_wp2
    go_ret
    exact ⟨rfl, Below.refl _ _⟩
  have hbig4 : ¬ (1048576 : Int) < (n' : Int) := by omega
  have hm1 : (n' : Int).tmod 201 = ((n' % 201 : Nat) : Int) := by rw [Int.tmod_eq_emod_of_nonneg (by omega)]; rfl
  have hm2 : (n' : Int) % 201 = ((n' % 201 : Nat) : Int) := rfl
  have hmle : n' % 201 ≤ n' := Nat.mod_le _ _
  have hmlt : n' % 201 < 201 := Nat.mod_lt _ (by decide)
  obtain ⟨u0, hu0, hcv⟩ := conv_bytes hA2 (n' % 201) hmle
  obtain ⟨m, hm⟩ : ∃ m, m = n' % 201 := ⟨_, rfl⟩
  rw [← hm] at hm1 hm2 hmle hmlt hu0 hcv
  clear hm hbig hbig3 hA2
  go_enter Try.func5, Try.ntmps5
  have hC := hD
  go_wp2_with (go_at_call 15; refine hC.mono ?_; rintro r w1 ⟨d, A0, c0, B0, e0, n0, t0, rfl, h0, hd, ht0, hb1⟩; refine Hid.out ?_)
  refine Lib.hid ?_
  clear hC hD hbig2 hbig4
  have BB := hb1
  clear hb1
  have b0 := Bx.new w1 26 (.slice A0 d.cells.length c0) (.slice B0 d.waits.length e0) (.bool d.gone)
  have bl : Below w1.heap.size w1 (w1.alloc (.cells #[.slice A0 d.cells.length c0, .slice B0 d.waits.length e0, .bool d.gone] 26)) := bel_new (Below.refl _ _) _
  have h0 := h0.below bl
  have BB := bel_then BB bl
  clear bl
  have hcv := hcv _ BB
  have ht : t0.size ≤ maxLen := by unfold maxLen; omega
  have hu : u0.size ≤ maxLen := by unfold maxLen; omega
  have hW1 := fun A B c e W hW => impl_write A B c e d n0 t0 W hd hW ht
  have hS1 := fun A B c e W hW => spec_write A B c e d n0 t0 W hd hW ht
  have hk1 := bulk_write hd n0 t0
  obtain ⟨D1, hD1⟩ : ∃ D, D = (writeD d n0 t0).1 := ⟨_, rfl⟩
  obtain ⟨p1, hp1⟩ : ∃ p, p = (writeD d n0 t0).2 := ⟨_, rfl⟩
  simp only [← hD1, ← hp1] at hW1 hS1 hk1
  have hW2 := fun A B c e W hW => impl_write A B c e D1 n0 u0 W hk1 hW hu
  have hk2 := bulk_write hk1 n0 u0
  have hrw := fun h => read_write (d := D1) (n := n0) (t := u0) h n0
  have hfw := fun h => flush_write (d := D1) (n := n0) (t := u0) h
  have htd := fun h => write_told (d := D1) (n := n0) (t := u0) h
  obtain ⟨D2, hD2⟩ : ∃ D, D = (writeD D1 n0 u0).1 := ⟨_, rfl⟩
  obtain ⟨p2, hp2⟩ : ∃ p, p = (writeD D1 n0 u0).2 := ⟨_, rfl⟩
  simp only [← hD2, ← hp2] at hW2 hk2 hrw hfw htd
  have HR := Lib.hid hrw
  have HF := Lib.hid hfw
  have HT := Lib.hid htd
  clear hD1 hp1 hD2 hp2 ht hu ht0 hrw hfw htd
  obtain ⟨⟨x00, x01, x02⟩, _⟩ := b0.cells
  have hC := hW1 A0 B0 c0 e0 _ h0
  go_wp2_with (go_at_call 16; refine hC.mono ?_; rintro r w2 ⟨A1, c1, B1, e1, rfl, o1, hb2⟩; refine Hid.out ?_)
  refine Lib.hid ?_
  clear hC hW1
  clear x00 x01 x02
  have b0 := b0.below hb2
  have h0 := h0.below hb2
  have BB := bel_then BB hb2
  clear hb2
  have h1 := o1.lies
  clear o1
  have b1 := Bx.new w2 26 (.slice A1 D1.cells.length c1) (.slice B1 D1.waits.length e1) (.bool D1.gone)
  have bl : Below w2.heap.size w2 (w2.alloc (.cells #[.slice A1 D1.cells.length c1, .slice B1 D1.waits.length e1, .bool D1.gone] 26)) := bel_new (Below.refl _ _) _
  have b0 := b0.below bl
  have h0 := h0.below bl
  have h1 := h1.below bl
  have BB := bel_then BB bl
  clear bl
  clear hcv hm1 hm2 hmle hmlt
  obtain ⟨⟨x10, x11, x12⟩, _⟩ := b1.cells
  have hC := hW2 A1 B1 c1 e1 _ h1
  go_wp2_with (go_at_call 16; refine hC.mono ?_; rintro r w3 ⟨A2, c2, B2, e2, rfl, o2, hb3⟩; refine Hid.out ?_)
  refine Lib.hid ?_
  clear hC hW2
  clear x10 x11 x12
  have b0 := b0.below hb3
  have b1 := b1.below hb3
  have h0 := h0.below hb3
  have h1 := h1.below hb3
  have BB := bel_then BB hb3
  clear hb3
  have h2 := o2.lies
  clear o2
  have b2 := Bx.new w3 26 (.slice A2 D2.cells.length c2) (.slice B2 D2.waits.length e2) (.bool D2.gone)
  have bl : Below w3.heap.size w3 (w3.alloc (.cells #[.slice A2 D2.cells.length c2, .slice B2 D2.waits.length e2, .bool D2.gone] 26)) := bel_new (Below.refl _ _) _
  have b0 := b0.below bl
  have b1 := b1.below bl
  have h0 := h0.below bl
  have h1 := h1.below bl
  have h2 := h2.below bl
  have BB := bel_then BB bl
  clear bl
  obtain ⟨⟨x00, x01, x02⟩, _⟩ := b0.cells
  have hC := hS1 A0 B0 c0 e0 _ h0
  go_wp2_with (go_at_call 17; refine hC.mono ?_; rintro r w4 ⟨A3, c3, B3, e3, rfl, o3, hb4⟩; refine Hid.out ?_)
  refine Lib.hid ?_
  clear hC hS1
  clear x00 x01 x02
  have b0 := b0.below hb4
  have b1 := b1.below hb4
  have b2 := b2.below hb4
  have h0 := h0.below hb4
  have h1 := h1.below hb4
  have h2 := h2.below hb4
  have BB := bel_then BB hb4
  clear hb4
  have h3 := o3.lies
  clear o3
  have b3 := Bx.new w4 26 (.slice A3 D1.cells.length c3) (.slice B3 D1.waits.length e3) (.bool D1.gone)
  have bl : Below w4.heap.size w4 (w4.alloc (.cells #[.slice A3 D1.cells.length c3, .slice B3 D1.waits.length e3, .bool D1.gone] 26)) := bel_new (Below.refl _ _) _
  have b0 := b0.below bl
  have b1 := b1.below bl
  have b2 := b2.below bl
  have h0 := h0.below bl
  have h1 := h1.below bl
  have h2 := h2.below bl
  have h3 := h3.below bl
  have BB := bel_then BB bl
  clear bl
  clear b0 h0
  by_cases hp : p1 = true
  · subst hp
    by_cases hq : p2 = true
    · subst hq
      obtain ⟨hok, hgone, n00, n63, hsz, hlen⟩ := HT.out rfl
      have hr := HR.out rfl n00 n63
      rw [if_pos trivial] at hr
      have hf := HF.out rfl
      obtain ⟨k, rfl⟩ : ∃ k : Nat, n0 = (k : Int) := ⟨n0.toNat, by omega⟩
      rw [Int.toNat_natCast] at hf
      obtain ⟨F, hF⟩ : ∃ F, F = flushD D2 := ⟨_, rfl⟩
      have hcell : F.cells.getD k none8 = u0 ∧ k < F.cells.length := by
        have hl : (flushD D1).cells.length = 64 := flush_len hok
        rw [hF, hf]
        have hkl : k < (flushD D1).cells.length := by omega
        refine ⟨?_, by simpa using hkl⟩
        simp [List.getD_eq_getElem?_getD, hkl]
      obtain ⟨hc1, hc2⟩ := hcell
      have hk2i : (k : Int) < (F.cells.length : Int) := by omega
      have hFl := fun A B c e W hW => impl_flush A B c e D2 W hk2 hW
      have hCr := fun A B c e W hW => impl_crash A B c e D2 1152921504606846975 (-1) W hk2 hW (by decide)
      rw [show crashD D2 1152921504606846975 (-1) = F from hF.symm] at hCr
      rw [← hF] at hFl
      have hRd := fun A B c e W hW => impl_readAt A B c e D2 (k : Int) W hk2 hW hr
      have HC1 := Lib.hid hc1
      clear hr hf hok hgone hsz hlen HR HF HT hF hc1 n63
      obtain ⟨⟨x10, x11, x12⟩, _⟩ := b1.cells
      obtain ⟨⟨x30, x31, x32⟩, _⟩ := b3.cells
      have hC := pf_disk A1 B1 A3 B3 c1 e1 c3 e3 D1 _ hk1.cells hk1.waits h1 h3
      go_wp2_with (go_at_call 9; refine hC.mono ?_; rintro r w5 ⟨rfl, hb5⟩; refine Hid.out ?_)
      refine Lib.hid ?_
      clear hC
      clear x10 x11 x12 x30 x31 x32
      have b1 := b1.below hb5
      have b2 := b2.below hb5
      have b3 := b3.below hb5
      have h1 := h1.below hb5
      have h2 := h2.below hb5
      have h3 := h3.below hb5
      have BB := bel_then BB hb5
      clear hb5
      clear b1 h1 b3 h3
      obtain ⟨⟨x20, x21, x22⟩, _⟩ := b2.cells
      have hC := hRd A2 B2 c2 e2 _ h2
      go_wp2_with (go_at_call 18; refine hC.mono ?_; rintro r w6 ⟨rfl, hb6⟩; refine Hid.out ?_)
      refine Lib.hid ?_
      clear hC hRd
      clear x20 x21 x22
      have b2 := b2.below hb6
      have h2 := h2.below hb6
      have BB := bel_then BB hb6
      clear hb6
      have hfc := fun x y z w => fld_cells x y z w
      have hq : (u0.toList == u0.toList) = true := by simp
      obtain ⟨⟨x20, x21, x22⟩, _⟩ := b2.cells
      have hC := hFl A2 B2 c2 e2 _ h2
      go_wp2_with (go_at_call 19; refine hC.mono ?_; rintro r w7 ⟨A5, c5, B5, e5, rfl, o5, hb7⟩; obtain ⟨g5, off5, rfl, hlt5, hck5⟩ := o5.lies.1.strD k hc2; rw [HC1.out] at hck5; refine Hid.out ?_)
      refine Lib.hid ?_
      clear hC hFl
      clear x20 x21 x22
      have b2 := b2.below hb7
      have h2 := h2.below hb7
      have BB := bel_then BB hb7
      clear hb7
      obtain ⟨⟨x20, x21, x22⟩, _⟩ := b2.cells
      have hC := hCr A2 B2 c2 e2 _ h2
      go_wp2_with (go_at_call 7; refine hC.mono ?_; rintro r w9 ⟨A6, c6, B6, e6, rfl, o6, hb9⟩; obtain ⟨g6, off6, rfl, hlt6, hck6⟩ := o6.lies.1.strD k hc2; rw [HC1.out] at hck6)
      go_ret
      exact ⟨rfl, bel_then BB hb9⟩
    · obtain rfl : p2 = false := by simpa using hq
      clear hq HR HF HT
      obtain ⟨⟨x10, x11, x12⟩, _⟩ := b1.cells
      obtain ⟨⟨x30, x31, x32⟩, _⟩ := b3.cells
      have hC := fun W hW1 hW3 => pf_disk A1 B1 A3 B3 c1 e1 c3 e3 D1 W hk1.cells hk1.waits hW1 hW3
      have hC1 := hC _ h1 h3
      go_wp2_with (go_at_call 9; refine hC1.mono ?_; rintro r w9 ⟨rfl, hb9⟩; refine Hid.out ?_)
      refine Lib.hid ?_
      clear hC1 x10 x11 x12 x30 x31 x32
      have b1 := b1.below hb9
      have b2 := b2.below hb9
      have b3 := b3.below hb9
      have h1 := h1.below hb9
      have h2 := h2.below hb9
      have h3 := h3.below hb9
      have BB := bel_then BB hb9
      obtain ⟨⟨x10, x11, x12⟩, _⟩ := b1.cells
      obtain ⟨⟨x30, x31, x32⟩, _⟩ := b3.cells
      have hC1 := hC _ h1 h3
      go_wp2_with (go_at_call 9; refine hC1.mono ?_; rintro r w10 ⟨rfl, hb10⟩)
      go_ret
      exact ⟨rfl, bel_then BB hb10⟩
  · obtain rfl : p1 = false := by simpa using hp
    clear hp HR HF HT
    obtain ⟨⟨x10, x11, x12⟩, _⟩ := b1.cells
    obtain ⟨⟨x30, x31, x32⟩, _⟩ := b3.cells
    have hC := fun W hW1 hW3 => pf_disk A1 B1 A3 B3 c1 e1 c3 e3 D1 W hk1.cells hk1.waits hW1 hW3
    have hC1 := hC _ h1 h3
    go_wp2_with (go_at_call 9; refine hC1.mono ?_; rintro r w9 ⟨rfl, hb9⟩; refine Hid.out ?_)
    refine Lib.hid ?_
    clear hC1 x10 x11 x12 x30 x31 x32
    have b1 := b1.below hb9
    have b2 := b2.below hb9
    have b3 := b3.below hb9
    have h1 := h1.below hb9
    have h2 := h2.below hb9
    have h3 := h3.below hb9
    have BB := bel_then BB hb9
    obtain ⟨⟨x10, x11, x12⟩, _⟩ := b1.cells
    obtain ⟨⟨x30, x31, x32⟩, _⟩ := b3.cells
    have hC1 := hC _ h1 h3
    go_wp2_with (go_at_call 9; refine hC1.mono ?_; rintro r w10 ⟨rfl, hb10⟩)
    go_ret
    exact ⟨rfl, bel_then BB hb10⟩
end Go.Proofs.Ytimpdjlgfjehcaa
