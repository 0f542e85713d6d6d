/-
  FnDiskWrite's walk.
-/
import Derived.Test.YtadgknkheachaaaPl
import Derived.Test.YtadgknkheachaaaDrP
namespace Go.Proofs.Ytadgknkheachaaa
open Go.RowKit

set_option maxRecDepth 100000 in
set_option maxHeartbeats 8000000 in
theorem walk_write (A A' : Option Addr) (n cap n' cap' : Nat) (w : World) (hD : Calls Try.prog 46 #[.slice A n cap] w (Drawn3 w)) :
    Calls Try.prog 14 #[.slice A n cap, .slice A' n' cap'] w fun r w' => r = .returned (.bool true) ∧ Below w.heap.size w w' := by
  by_cases hbig : 1048576 < n
  · have hbig2 : (1048576 : Int) < (n : Int) := by omega
    clear hD hbig
    go_enter Try.func14, Try.ntmps14
    go_wp2
    go_ret
    exact ⟨rfl, Below.refl _ _⟩
  have hbig2 : ¬ (1048576 : Int) < (n : Int) := by omega
  by_cases hbig3 : 1048576 < n'
  · have hbig4 : (1048576 : Int) < (n' : Int) := by omega
    clear hD hbig hbig3
    go_enter Try.func14, Try.ntmps14
    go_wp2
    go_ret
    exact ⟨rfl, Below.refl _ _⟩
  have hbig4 : ¬ (1048576 : Int) < (n' : Int) := by omega
  have hm1 : (n' : Int).tmod 64 = ((n' % 64 : Nat) : Int) := by rw [Int.tmod_eq_emod_of_nonneg (by omega)]; rfl
  have hm2 : (n' : Int) % 64 = ((n' % 64 : Nat) : Int) := rfl
  have hk63 : ((n' % 64 : Nat) : Int) ≤ 63 := by omega
  obtain ⟨k, hk⟩ : ∃ k, k = n' % 64 := ⟨_, rfl⟩
  rw [← hk] at hm1 hm2 hk63
  have hk0 : (0 : Int) ≤ (k : Int) := by omega
  clear hk hbig hbig3
  go_enter Try.func14, Try.ntmps14
  have hC := hD
  go_wp2_with (go_at_call 46; refine hC.mono ?_; rintro r w1 ⟨d, A0, c0, B0, e0, n0, t0, rfl, h0, hd, ht0, hb1⟩; refine Hid.out ?_)
  refine Lib.hid ?_
  clear hC hD hbig2 hbig4
  have BB := hb1
  clear hb1
  have b0 := Bx.new w1 25 (.slice A0 d.cells.length c0) (.slice B0 d.waits.length e0) (.bool d.gone)
  have bl : Below w1.heap.size w1 (w1.alloc (.cells #[.slice A0 d.cells.length c0, .slice B0 d.waits.length e0, .bool d.gone] 25)) := bel_new (Below.refl _ _) _
  have h0 := h0.below bl
  have BB := bel_then BB bl
  clear bl
  have ht : t0.size ≤ maxLen := by unfold maxLen; omega
  have hW := fun A B c e W hW => impl_write A B c e d n0 t0 W hd hW ht
  have hS := fun A B c e W hW => spec_write A B c e d n0 t0 W hd hW ht
  have hkD := bulk_write hd n0 t0
  have hce := fun h => write_cells (d := d) (n := n0) (t := t0) h
  have hrw := fun h => read_write (d := d) (n := n0) (t := t0) h
  have htd := fun h => write_told (d := d) (n := n0) (t := t0) h
  obtain ⟨D, hDe⟩ : ∃ D, D = (writeD d n0 t0).1 := ⟨_, rfl⟩
  obtain ⟨p, hpe⟩ : ∃ p, p = (writeD d n0 t0).2 := ⟨_, rfl⟩
  simp only [← hDe, ← hpe] at hW hS hkD hce hrw htd
  have HC := Lib.hid hce
  have HR := Lib.hid hrw
  have HT := Lib.hid htd
  clear hDe hpe ht ht0 hce hrw htd
  obtain ⟨⟨x00, x01, x02⟩, _⟩ := b0.cells
  have hC := hW A0 B0 c0 e0 _ h0
  go_wp2_with (go_at_call 34; refine hC.mono ?_; rintro r w2 ⟨A1, c1, B1, e1, rfl, o1, hb2⟩; refine Hid.out ?_)
  refine Lib.hid ?_
  clear hC hW
  clear x00 x01 x02
  have b0 := b0.below hb2
  have h0 := h0.below hb2
  have BB := bel_then BB hb2
  clear hb2
  have h1 := o1.lies
  clear o1
  have b1 := Bx.new w2 25 (.slice A1 D.cells.length c1) (.slice B1 D.waits.length e1) (.bool D.gone)
  have bl : Below w2.heap.size w2 (w2.alloc (.cells #[.slice A1 D.cells.length c1, .slice B1 D.waits.length e1, .bool D.gone] 25)) := bel_new (Below.refl _ _) _
  have b0 := b0.below bl
  have h0 := h0.below bl
  have h1 := h1.below bl
  have BB := bel_then BB bl
  clear bl
  obtain ⟨⟨x00, x01, x02⟩, _⟩ := b0.cells
  have hC := hS A0 B0 c0 e0 _ h0
  go_wp2_with (go_at_call 33; refine hC.mono ?_; rintro r w3 ⟨A2, c2, B2, e2, rfl, o2, hb3⟩; refine Hid.out ?_)
  refine Lib.hid ?_
  clear hC hS
  clear x00 x01 x02
  have b0 := b0.below hb3
  have b1 := b1.below hb3
  have h0 := h0.below hb3
  have h1 := h1.below hb3
  have BB := bel_then BB hb3
  clear hb3
  have h2 := o2.lies
  clear o2
  have b2 := Bx.new w3 25 (.slice A2 D.cells.length c2) (.slice B2 D.waits.length e2) (.bool D.gone)
  have bl : Below w3.heap.size w3 (w3.alloc (.cells #[.slice A2 D.cells.length c2, .slice B2 D.waits.length e2, .bool D.gone] 25)) := bel_new (Below.refl _ _) _
  have b0 := b0.below bl
  have b1 := b1.below bl
  have h0 := h0.below bl
  have h1 := h1.below bl
  have h2 := h2.below bl
  have BB := bel_then BB bl
  clear bl
  by_cases hp : p = true
  · subst hp
    obtain ⟨hc1, hc2⟩ := HC.out rfl
    obtain ⟨hv, hg, n00, n63, _⟩ := HT.out rfl
    have r1 := HR.out rfl n0 n00 n63
    have r2 := HR.out rfl (k : Int) hk0 hk63
    have r3 := readD_yes hv hg ⟨hk0, hk63⟩
    rw [if_pos rfl] at r1
    obtain ⟨u, hu⟩ : ∃ u, u = latest d (k : Int) := ⟨_, rfl⟩
    obtain ⟨v, hv2⟩ : ∃ v, v = (if (k : Int) = n0 then t0 else latest d (k : Int)) := ⟨_, rfl⟩
    rw [← hv2] at r2
    rw [← hu] at r3
    have hor : ((k : Int) == n0) = true ∨ (((k : Int) == n0) = false ∧ v = u) := by
      by_cases h : (k : Int) = n0
      · exact .inl (by simpa using h)
      · exact .inr ⟨by simpa using h, by rw [hv2, hu, if_neg h]⟩
    have hq : (t0.toList == t0.toList) = true := by simp
    have hqu : (u.toList == u.toList) = true := by simp
    have hwb := hd.waits
    have hwl : ((D.waits.length : Int) == (d.waits.length : Int) + 1) = true := by rw [hc2]; simp
    have R1 := Lib.hid r1
    have R2 := Lib.hid r2
    have R3 := Lib.hid r3
    have HE := Lib.hid hc1
    clear hu hv2 r1 r2 r3 hc1 hc2 hv hg HC HR HT
    obtain ⟨⟨x10, x11, x12⟩, _⟩ := b1.cells
    obtain ⟨⟨x20, x21, x22⟩, _⟩ := b2.cells
    have hC := pf_disk A1 B1 A2 B2 c1 e1 c2 e2 D _ hkD.cells hkD.waits h1 h2
    go_wp2_with (go_at_call 43; refine hC.mono ?_; rintro r w4 ⟨rfl, hb4⟩; refine Hid.out ?_)
    refine Lib.hid ?_
    clear hC
    clear x10 x11 x12 x20 x21 x22
    have b0 := b0.below hb4
    have b1 := b1.below hb4
    have b2 := b2.below hb4
    have h0 := h0.below hb4
    have h1 := h1.below hb4
    have h2 := h2.below hb4
    have BB := bel_then BB hb4
    clear hb4
    clear b2 h2
    obtain ⟨⟨x10, x11, x12⟩, _⟩ := b1.cells
    have hC := impl_readAt A1 B1 c1 e1 D n0 _ hkD h1 R1.out
    go_wp2_with (go_at_call 32; refine hC.mono ?_; rintro r w5 ⟨rfl, hb5⟩; refine Hid.out ?_)
    refine Lib.hid ?_
    clear hC
    clear x10 x11 x12
    have b0 := b0.below hb5
    have b1 := b1.below hb5
    have h0 := h0.below hb5
    have h1 := h1.below hb5
    have BB := bel_then BB hb5
    clear hb5
    obtain ⟨⟨x10, x11, x12⟩, _⟩ := b1.cells
    have hC := impl_readAt A1 B1 c1 e1 D (k : Int) _ hkD h1 R2.out
    go_wp2_with (go_at_call 32; refine hC.mono ?_; rintro r w6 ⟨rfl, hb6⟩; refine Hid.out ?_)
    refine Lib.hid ?_
    clear hC
    clear x10 x11 x12
    have b0 := b0.below hb6
    have b1 := b1.below hb6
    have h0 := h0.below hb6
    have h1 := h1.below hb6
    have BB := bel_then BB hb6
    clear hb6
    obtain ⟨⟨x00, x01, x02⟩, _⟩ := b0.cells
    have hC := impl_readAt A0 B0 c0 e0 d (k : Int) _ hd h0 R3.out
    go_wp2_with (go_at_call 32; refine hC.mono ?_; rintro r w7 ⟨rfl, hb7⟩; refine Hid.out ?_)
    refine Lib.hid ?_
    clear hC
    clear x00 x01 x02
    have b0 := b0.below hb7
    have b1 := b1.below hb7
    have h0 := h0.below hb7
    have h1 := h1.below hb7
    have BB := bel_then BB hb7
    clear hb7
    obtain ⟨⟨x00, x01, x02⟩, _⟩ := b0.cells
    obtain ⟨⟨x10, x11, x12⟩, _⟩ := b1.cells
    have hC := pf_texts2 A1 A0 c1 c0 D.cells d.cells _ HE.out hkD.cells h1.1 h0.1
    rcases hor with hor | ⟨hor, rfl⟩
    all_goals
      go_wp2_with (go_at_call 47; refine hC.mono ?_; rintro r w9 ⟨rfl, hb9⟩; refine Hid.out ?_)
      refine Lib.hid ?_
      have q0 := b0.below hb9
      have q1 := b1.below hb9
      clear hC x00 x01 x02 x10 x11 x12
      obtain ⟨⟨x00, x01, x02⟩, _⟩ := q0.cells
      obtain ⟨⟨x10, x11, x12⟩, _⟩ := q1.cells
      go_wp2_with fail
      go_ret
      exact ⟨rfl, bel_then BB hb9⟩
  · obtain rfl : p = false := by simpa using hp
    clear hp HC HR HT
    obtain ⟨⟨x10, x11, x12⟩, _⟩ := b1.cells
    obtain ⟨⟨x20, x21, x22⟩, _⟩ := b2.cells
    have hC := pf_disk A1 B1 A2 B2 c1 e1 c2 e2 D _ hkD.cells hkD.waits h1 h2
    go_wp2_with (go_at_call 43; refine hC.mono ?_; rintro r w9 ⟨rfl, hb9⟩)
    go_ret
    exact ⟨rfl, bel_then BB hb9⟩
end Go.Proofs.Ytadgknkheachaaa
