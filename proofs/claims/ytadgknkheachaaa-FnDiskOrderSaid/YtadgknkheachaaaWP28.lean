/-
  FnDiskOrder's walk.
-/
import Derived.Test.YtadgknkheachaaaOrdP
import Derived.Test.YtadgknkheachaaaDrP
import Derived.Test.YtadgknkheachaaaWrY
import Derived.Test.YtadgknkheachaaaWrS
import Derived.Test.YtadgknkheachaaaCrI
namespace Go.Proofs.Ytadgknkheachaaa
open Go.RowKit

set_option maxRecDepth 100000 in
set_option maxHeartbeats 8000000 in
theorem walk_order (A A' : Option Addr) (n cap n' cap' : Nat) (w : World) (hD : Calls Try.prog 46 #[.slice A n cap] w (Drawn3 w)) (hE : ∀ W, Below w.heap.size w W → Calls Try.prog 46 #[.slice A' n' cap'] W (Drawn3 W)) :
    Calls Try.prog 20 #[.slice A n cap, .slice A' n' cap'] w fun r w' => r = .returned (.bool true) ∧ Below w.heap.size w w' := by
  by_cases hbig : 1048576 < n
  · have hbig2 : (1048576 : Int) < (n : Int) := by omega
    clear hD hE hbig
    go_enter Try.func20, Try.ntmps20
    go_wp2
    go_ret
    exact ⟨rfl, Below.refl _ _⟩
  have hbig2 : ¬ (1048576 : Int) < (n : Int) := by omega
  by_cases hbig3 : 1048576 < n'
  · have hbig4 : (1048576 : Int) < (n' : Int) := by omega
    clear hD hE hbig hbig3
    go_enter Try.func20, Try.ntmps20
    go_wp2
    go_ret
    exact ⟨rfl, Below.refl _ _⟩
  have hbig4 : ¬ (1048576 : Int) < (n' : Int) := by omega
  clear hbig hbig3
  go_enter Try.func20, Try.ntmps20
  have hC := hD
  go_wp2_with (go_at_call 46; refine hC.mono ?_; rintro r w1 ⟨d, A0, c0, B0, e0, n0, t0, rfl, h0, hd, ht0, hb1⟩; refine Hid.out ?_)
  refine Lib.hid ?_
  clear hC hD hbig2 hbig4
  have BB := hb1
  clear hb1
  have b0 := Bx.new w1 25 (.slice A0 d.cells.length c0) (.slice B0 d.waits.length e0) (.bool d.gone)
  have bl : Below w1.heap.size w1 (w1.alloc (.cells #[.slice A0 d.cells.length c0, .slice B0 d.waits.length e0, .bool d.gone] 25)) := bel_new (Below.refl _ _) _
  have h0 := h0.below bl
  have BB := bel_then BB bl
  clear bl
  have hC := hE _ BB
  go_wp2_with (go_at_call 46; refine hC.mono ?_; rintro r w2 ⟨d9, A9, c9, B9, e9, m0, u0, rfl, h9, hd9, hu0, hb2⟩; refine Hid.out ?_)
  refine Lib.hid ?_
  clear hC hE
  have b0 := b0.below hb2
  have h0 := h0.below hb2
  have BB := bel_then BB hb2
  clear hb2
  clear h9 hd9
  have bl : Below w2.heap.size w2 (w2.alloc (.cells #[.slice A9 d9.cells.length c9, .slice B9 d9.waits.length e9, .bool d9.gone] 25)) := bel_new (Below.refl _ _) _
  have b0 := b0.below bl
  have h0 := h0.below bl
  have BB := bel_then BB bl
  clear bl
  have ht : t0.size ≤ maxLen := by unfold maxLen; omega
  have hu : u0.size ≤ maxLen := by unfold maxLen; omega
  have hW1 := fun A B c e W hW => impl_write A B c e d n0 t0 W hd hW ht
  have hS1 := fun A B c e W hW => spec_write A B c e d n0 t0 W hd hW ht
  have hW3 := fun A B c e W hW => impl_write A B c e d m0 u0 W hd hW hu
  have hF1 := fun (h1 : (writeD d n0 t0).2 = true) h2 (h3 : (writeD d m0 u0).2 = true) h4 h => order_flush (d := d) (n := n0) (m := m0) (t := t0) (u := u0) h1 h2 h3 h4 h
  have hG1 := fun (h1 : (writeD d n0 t0).2 = true) h2 (h3 : (writeD d m0 u0).2 = true) h4 => order_crash (d := d) (n := n0) (m := m0) (t := t0) (u := u0) h1 h2 h3 h4
  have hk1 := bulk_write hd n0 t0
  have hk3 := bulk_write hd m0 u0
  obtain ⟨D1, hD1⟩ : ∃ D, D = (writeD d n0 t0).1 := ⟨_, rfl⟩
  obtain ⟨p1, hp1⟩ : ∃ p, p = (writeD d n0 t0).2 := ⟨_, rfl⟩
  obtain ⟨D3, hD3⟩ : ∃ D, D = (writeD d m0 u0).1 := ⟨_, rfl⟩
  obtain ⟨p3, hp3⟩ : ∃ p, p = (writeD d m0 u0).2 := ⟨_, rfl⟩
  simp only [← hD1, ← hp1] at hW1 hS1 hF1 hG1 hk1
  simp only [← hD3, ← hp3] at hW3 hF1 hG1 hk3
  have hW2 := fun A B c e W hW => impl_write A B c e D1 m0 u0 W hk1 hW hu
  have hW4 := fun A B c e W hW => impl_write A B c e D3 n0 t0 W hk3 hW ht
  have hk2 := bulk_write hk1 m0 u0
  have hk4 := bulk_write hk3 n0 t0
  obtain ⟨D2, hD2⟩ : ∃ D, D = (writeD D1 m0 u0).1 := ⟨_, rfl⟩
  obtain ⟨p2, hp2⟩ : ∃ p, p = (writeD D1 m0 u0).2 := ⟨_, rfl⟩
  obtain ⟨D4, hD4⟩ : ∃ D, D = (writeD D3 n0 t0).1 := ⟨_, rfl⟩
  obtain ⟨p4, hp4⟩ : ∃ p, p = (writeD D3 n0 t0).2 := ⟨_, rfl⟩
  simp only [← hD2, ← hp2] at hW2 hF1 hG1 hk2
  simp only [← hD4, ← hp4] at hW4 hF1 hG1 hk4
  clear hD1 hp1 hD2 hp2 hD3 hp3 hD4 hp4 ht hu ht0 hu0
  have HF := Lib.hid hF1
  have HG := Lib.hid hG1
  clear hF1 hG1
  obtain ⟨⟨x00, x01, x02⟩, _⟩ := b0.cells
  have hC := hW1 A0 B0 c0 e0 _ h0
  go_wp2_with (go_at_call 34; refine hC.mono ?_; rintro r w3 ⟨A1, c1, B1, e1, rfl, o1, hb3⟩; refine Hid.out ?_)
  refine Lib.hid ?_
  clear hC hW1
  clear x00 x01 x02
  have b0 := b0.below hb3
  have h0 := h0.below hb3
  have BB := bel_then BB hb3
  clear hb3
  have h1 := o1.lies
  clear o1
  have b1 := Bx.new w3 25 (.slice A1 D1.cells.length c1) (.slice B1 D1.waits.length e1) (.bool D1.gone)
  have bl : Below w3.heap.size w3 (w3.alloc (.cells #[.slice A1 D1.cells.length c1, .slice B1 D1.waits.length e1, .bool D1.gone] 25)) := bel_new (Below.refl _ _) _
  have b0 := b0.below bl
  have h0 := h0.below bl
  have h1 := h1.below bl
  have BB := bel_then BB bl
  clear bl
  obtain ⟨⟨x10, x11, x12⟩, _⟩ := b1.cells
  have hC := hW2 A1 B1 c1 e1 _ h1
  go_wp2_with (go_at_call 34; refine hC.mono ?_; rintro r w4 ⟨A2, c2, B2, e2, rfl, o2, hb4⟩; refine Hid.out ?_)
  refine Lib.hid ?_
  clear hC hW2
  clear x10 x11 x12
  have b0 := b0.below hb4
  have b1 := b1.below hb4
  have h0 := h0.below hb4
  have h1 := h1.below hb4
  have BB := bel_then BB hb4
  clear hb4
  have h2 := o2.lies
  clear o2
  have b2 := Bx.new w4 25 (.slice A2 D2.cells.length c2) (.slice B2 D2.waits.length e2) (.bool D2.gone)
  have bl : Below w4.heap.size w4 (w4.alloc (.cells #[.slice A2 D2.cells.length c2, .slice B2 D2.waits.length e2, .bool D2.gone] 25)) := bel_new (Below.refl _ _) _
  have b0 := b0.below bl
  have b1 := b1.below bl
  have h0 := h0.below bl
  have h1 := h1.below bl
  have h2 := h2.below bl
  have BB := bel_then BB bl
  clear bl
  obtain ⟨⟨x00, x01, x02⟩, _⟩ := b0.cells
  have hC := hW3 A0 B0 c0 e0 _ h0
  go_wp2_with (go_at_call 34; refine hC.mono ?_; rintro r w5 ⟨A3, c3, B3, e3, rfl, o3, hb5⟩; refine Hid.out ?_)
  refine Lib.hid ?_
  clear hC hW3
  clear x00 x01 x02
  have b0 := b0.below hb5
  have b1 := b1.below hb5
  have b2 := b2.below hb5
  have h0 := h0.below hb5
  have h1 := h1.below hb5
  have h2 := h2.below hb5
  have BB := bel_then BB hb5
  clear hb5
  have h3 := o3.lies
  clear o3
  have b3 := Bx.new w5 25 (.slice A3 D3.cells.length c3) (.slice B3 D3.waits.length e3) (.bool D3.gone)
  have bl : Below w5.heap.size w5 (w5.alloc (.cells #[.slice A3 D3.cells.length c3, .slice B3 D3.waits.length e3, .bool D3.gone] 25)) := bel_new (Below.refl _ _) _
  have b0 := b0.below bl
  have b1 := b1.below bl
  have b2 := b2.below bl
  have h0 := h0.below bl
  have h1 := h1.below bl
  have h2 := h2.below bl
  have h3 := h3.below bl
  have BB := bel_then BB bl
  clear bl
  obtain ⟨⟨x30, x31, x32⟩, _⟩ := b3.cells
  have hC := hW4 A3 B3 c3 e3 _ h3
  go_wp2_with (go_at_call 34; refine hC.mono ?_; rintro r w6 ⟨A4, c4, B4, e4, rfl, o4, hb6⟩; refine Hid.out ?_)
  refine Lib.hid ?_
  clear hC hW4
  clear x30 x31 x32
  have b0 := b0.below hb6
  have b1 := b1.below hb6
  have b2 := b2.below hb6
  have b3 := b3.below hb6
  have h0 := h0.below hb6
  have h1 := h1.below hb6
  have h2 := h2.below hb6
  have h3 := h3.below hb6
  have BB := bel_then BB hb6
  clear hb6
  have h4 := o4.lies
  clear o4
  have b4 := Bx.new w6 25 (.slice A4 D4.cells.length c4) (.slice B4 D4.waits.length e4) (.bool D4.gone)
  have bl : Below w6.heap.size w6 (w6.alloc (.cells #[.slice A4 D4.cells.length c4, .slice B4 D4.waits.length e4, .bool D4.gone] 25)) := bel_new (Below.refl _ _) _
  have b0 := b0.below bl
  have b1 := b1.below bl
  have b2 := b2.below bl
  have b3 := b3.below bl
  have h0 := h0.below bl
  have h1 := h1.below bl
  have h2 := h2.below bl
  have h3 := h3.below bl
  have h4 := h4.below bl
  have BB := bel_then BB bl
  clear bl
  obtain ⟨⟨x00, x01, x02⟩, _⟩ := b0.cells
  have hC := hS1 A0 B0 c0 e0 _ h0
  go_wp2_with (go_at_call 33; refine hC.mono ?_; rintro r w7 ⟨A5, c5, B5, e5, rfl, o5, hb7⟩; refine Hid.out ?_)
  refine Lib.hid ?_
  clear hC hS1
  clear x00 x01 x02
  have b0 := b0.below hb7
  have b1 := b1.below hb7
  have b2 := b2.below hb7
  have b3 := b3.below hb7
  have b4 := b4.below hb7
  have h0 := h0.below hb7
  have h1 := h1.below hb7
  have h2 := h2.below hb7
  have h3 := h3.below hb7
  have h4 := h4.below hb7
  have BB := bel_then BB hb7
  clear hb7
  have h5 := o5.lies
  clear o5
  have b5 := Bx.new w7 25 (.slice A5 D1.cells.length c5) (.slice B5 D1.waits.length e5) (.bool D1.gone)
  have bl : Below w7.heap.size w7 (w7.alloc (.cells #[.slice A5 D1.cells.length c5, .slice B5 D1.waits.length e5, .bool D1.gone] 25)) := bel_new (Below.refl _ _) _
  have b0 := b0.below bl
  have b1 := b1.below bl
  have b2 := b2.below bl
  have b3 := b3.below bl
  have b4 := b4.below bl
  have h0 := h0.below bl
  have h1 := h1.below bl
  have h2 := h2.below bl
  have h3 := h3.below bl
  have h4 := h4.below bl
  have h5 := h5.below bl
  have BB := bel_then BB bl
  clear bl
  clear b0 h0 b3 h3
  by_cases hgo : p1 = true ∧ p2 = true ∧ p3 = true ∧ p4 = true ∧ n0 ≠ m0
  · obtain ⟨rfl, rfl, rfl, rfl, hne⟩ := hgo
    have hff := HF.out rfl rfl rfl rfl hne
    have hgg := HG.out rfl rfl rfl rfl
    have hnb : (n0 == m0) = false := by simpa using hne
    have hI2 := fun A B c e W hW => impl_flush A B c e D2 W hk2 hW
    have hI4 := fun A B c e W hW => impl_flush A B c e D4 W hk4 hW
    have hC2 := fun A B c e W hW => impl_crash A B c e D2 0 (-1) W hk2 hW (by decide)
    have hC4 := fun A B c e W hW => impl_crash A B c e D4 0 (-1) W hk4 hW (by decide)
    have hkF := bulk_flush hk2
    have hkC := bulk_crash (d := D2) 0 (-1)
    rw [← hff] at hI4
    rw [← hgg] at hC4
    obtain ⟨F, hF⟩ : ∃ F, F = flushD D2 := ⟨_, rfl⟩
    obtain ⟨C, hC⟩ : ∃ C, C = crashD D2 0 (-1) := ⟨_, rfl⟩
    simp only [← hF] at hI2 hI4 hkF
    simp only [← hC] at hC2 hC4 hkC
    clear hF hC hff hgg HF HG hne
    obtain ⟨⟨x10, x11, x12⟩, _⟩ := b1.cells
    obtain ⟨⟨x50, x51, x52⟩, _⟩ := b5.cells
    have hC := pf_disk A1 B1 A5 B5 c1 e1 c5 e5 D1 _ hk1.cells hk1.waits h1 h5
    go_wp2_with (go_at_call 43; refine hC.mono ?_; rintro r w8 ⟨rfl, hb8⟩; refine Hid.out ?_)
    refine Lib.hid ?_
    clear hC
    clear x10 x11 x12 x50 x51 x52
    have b1 := b1.below hb8
    have b2 := b2.below hb8
    have b4 := b4.below hb8
    have b5 := b5.below hb8
    have h1 := h1.below hb8
    have h2 := h2.below hb8
    have h4 := h4.below hb8
    have h5 := h5.below hb8
    have BB := bel_then BB hb8
    clear hb8
    clear b1 h1 b5 h5
    go_upto_region 12 with fail
    have BBd := BB.drew
    have q2 : Bx w8.drew _ 25 _ _ _ := b2
    have q4 : Bx w8.drew _ 25 _ _ _ := b4
    have k2 : DkAt w8.drew A2 B2 D2 := h2
    have k4 : DkAt w8.drew A4 B4 D4 := h4
    clear b2 b4 h2 h4 BB
    go_region_held3 (fun W => W.cell? ⟨w4.heap.size, 0, none⟩ = some (.slice A2 D2.cells.length c2) ∧ W.cell? ⟨w4.heap.size, 1, none⟩ = some (.slice B2 D2.waits.length e2) ∧ W.cell? ⟨w4.heap.size, 2, none⟩ = some (.bool D2.gone) ∧ W.cell? ⟨w6.heap.size, 0, none⟩ = some (.slice A4 D4.cells.length c4) ∧ W.cell? ⟨w6.heap.size, 1, none⟩ = some (.slice B4 D4.waits.length e4) ∧ W.cell? ⟨w6.heap.size, 2, none⟩ = some (.bool D4.gone))
      ((show SX w4.heap.size w6.heap.size (.slice A2 D2.cells.length c2) (.slice B2 D2.waits.length e2) (.bool D2.gone) (.slice A4 D4.cells.length c4) (.slice B4 D4.waits.length e4) (.bool D4.gone) _; with_reducible exact SX.of q2 q4))
      (first
        | (go_at_call 36; refine (hI2 A2 B2 c2 e2 _ k2).mono ?_; rintro r v ⟨P1, f1, Q1, r1, rfl, o1, hv⟩; replace q2 := q2.below hv; replace q4 := q4.below hv; replace k2 := k2.below hv; replace k4 := k4.below hv; replace BBd := bel_then BBd hv; clear hI2; clear hv)
        | (go_at_call 36; refine (hI4 A4 B4 c4 e4 _ k4).mono ?_; rintro r v ⟨P2, f2, Q2, r2, rfl, o2, hv⟩; replace o1 := o1.below hv; replace q2 := q2.below hv; replace q4 := q4.below hv; replace k2 := k2.below hv; replace k4 := k4.below hv; replace BBd := bel_then BBd hv; have E3 := pf_own hkF.cells hkF.waits o1 o2; clear hI4 o1 o2; clear hv)
        | (go_at_call 43; refine (E3).mono ?_; rintro r v ⟨rfl, hv⟩; replace q2 := q2.below hv; replace q4 := q4.below hv; replace k2 := k2.below hv; replace k4 := k4.below hv; replace BBd := bel_then BBd hv; clear E3; clear hv)
        | (go_at_call 38; refine (hC2 A2 B2 c2 e2 _ k2).mono ?_; rintro r v ⟨P4, f4, Q4, r4, rfl, o4, hv⟩; replace q2 := q2.below hv; replace q4 := q4.below hv; replace k2 := k2.below hv; replace k4 := k4.below hv; replace BBd := bel_then BBd hv; clear hC2; clear hv)
        | (go_at_call 38; refine (hC4 A4 B4 c4 e4 _ k4).mono ?_; rintro r v ⟨P5, f5, Q5, r5, rfl, o5, hv⟩; replace o4 := o4.below hv; replace q2 := q2.below hv; replace q4 := q4.below hv; replace k2 := k2.below hv; replace k4 := k4.below hv; replace BBd := bel_then BBd hv; have E6 := pf_own hkC.cells hkC.waits o4 o5; clear hC4 o4 o5; clear hv)
        | (go_at_call 43; refine (E6).mono ?_; rintro r v ⟨rfl, hv⟩; replace q2 := q2.below hv; replace q4 := q4.below hv; replace k2 := k2.below hv; replace k4 := k4.below hv; replace BBd := bel_then BBd hv; clear E6; clear hv))
    go_wp2_with fail
    go_ret
    exact ⟨rfl, BBd⟩
  · have hcase : p1 = false ∨ (p1 = true ∧ p2 = false) ∨ (p1 = true ∧ p2 = true ∧ p3 = false) ∨ (p1 = true ∧ p2 = true ∧ p3 = true ∧ p4 = false) ∨ (p1 = true ∧ p2 = true ∧ p3 = true ∧ p4 = true ∧ n0 = m0) := by
      by_cases hnm : n0 = m0 <;> cases p1 <;> cases p2 <;> cases p3 <;> cases p4 <;> simp_all
    clear hgo HF HG b2 b4 h2 h4 hk2 hk3 hk4
    rcases hcase with rfl | ⟨rfl, rfl⟩ | ⟨rfl, rfl, rfl⟩ | ⟨rfl, rfl, rfl, rfl⟩ | ⟨rfl, rfl, rfl, rfl, rfl⟩
    all_goals (
      obtain ⟨⟨x10, x11, x12⟩, _⟩ := b1.cells
      obtain ⟨⟨x50, x51, x52⟩, _⟩ := b5.cells
      have hC := pf_disk A1 B1 A5 B5 c1 e1 c5 e5 D1 _ hk1.cells hk1.waits h1 h5
      go_wp2_with (go_at_call 43; refine hC.mono ?_; rintro r w8 ⟨rfl, hb8⟩; refine Hid.out ?_)
      refine Lib.hid ?_
      clear hC
      clear x10 x11 x12 x50 x51 x52
      have b1 := b1.below hb8
      have b5 := b5.below hb8
      have h1 := h1.below hb8
      have h5 := h5.below hb8
      have BB := bel_then BB hb8
      clear hb8
      obtain ⟨⟨x10, x11, x12⟩, _⟩ := b1.cells
      obtain ⟨⟨x50, x51, x52⟩, _⟩ := b5.cells
      have hC := pf_disk A1 B1 A5 B5 c1 e1 c5 e5 D1 _ hk1.cells hk1.waits h1 h5
      go_wp2_with (go_at_call 43; refine hC.mono ?_; rintro r w9 ⟨rfl, hb9⟩)
      go_ret
      exact ⟨rfl, bel_then BB hb9⟩)
end Go.Proofs.Ytadgknkheachaaa
