/-
  FnDiskLose's walk.
-/
import Derived.Test.YtadgknkheachaaaPl
namespace Go.Proofs.Ytadgknkheachaaa
open Go.RowKit

set_option maxRecDepth 100000 in
set_option maxHeartbeats 8000000 in
theorem walk_lost (A : Option Addr) (n cap : Nat) (w : World) :
    Calls Try.prog 18 #[.slice A n cap] w fun r w' => r = .returned (.bool true) ∧ Below w.heap.size w w' := by
  by_cases hbig : 1048576 < n
  · have hbig2 : (1048576 : Int) < (n : Int) := by omega
    clear hbig
    go_enter Try.func18, Try.ntmps18
    go_wp2
    go_ret
    exact ⟨rfl, Below.refl _ _⟩
  have hbig2 : ¬ (1048576 : Int) < (n : Int) := by omega
  have hm1 : (n : Int).tmod 64 = ((n % 64 : Nat) : Int) := by rw [Int.tmod_eq_emod_of_nonneg (by omega)]; rfl
  have hm2 : (n : Int) % 64 = ((n % 64 : Nat) : Int) := rfl
  have hk63 : ((n % 64 : Nat) : Int) ≤ 63 := by omega
  obtain ⟨k, hk⟩ : ∃ k, k = n % 64 := ⟨_, rfl⟩
  rw [← hk] at hm1 hm2 hk63
  have hk0 : (0 : Int) ≤ (k : Int) := by omega
  clear hk hbig
  have hN := impl_lose
  have hM := spec_lose
  have hkD : Bulk loseD := valid_bulk lose_valid
  have hrd := lose_read (k : Int)
  have hok : okD loseD = true := (okD_iff _).2 lose_valid
  have hwr := fun A B c e W hW => impl_write A B c e loseD (k : Int) (strOf [120]) W hkD hW (by decide)
  have hlw := lose_write (k : Int) (strOf [120])
  simp only [hlw] at hwr
  obtain ⟨s, hs⟩ : ∃ s, s = none8 := ⟨_, rfl⟩
  obtain ⟨D, hD⟩ : ∃ D, D = loseD := ⟨_, rfl⟩
  simp only [← hD, ← hs] at hN hM hkD hrd hok hwr
  clear hs hD hlw
  have HR := Lib.hid hrd
  have HO := Lib.hid hok
  clear hrd hok
  go_enter Try.func18, Try.ntmps18
  go_wp2_with (go_at_call 42; refine (hN _).mono ?_; rintro r w1 ⟨A1, c1, B1, e1, rfl, o1, hb1⟩; refine Hid.out ?_)
  refine Lib.hid ?_
  clear hN
  have BB := hb1
  clear hb1
  have h1 := o1.lies
  clear o1
  have b1 := Bx.new w1 25 (.slice A1 D.cells.length c1) (.slice B1 D.waits.length e1) (.bool D.gone)
  have bl : Below w1.heap.size w1 (w1.alloc (.cells #[.slice A1 D.cells.length c1, .slice B1 D.waits.length e1, .bool D.gone] 25)) := bel_new (Below.refl _ _) _
  have h1 := h1.below bl
  have BB := bel_then BB bl
  clear bl
  go_wp2_with (go_at_call 41; refine (hM _).mono ?_; rintro r w2 ⟨A2, c2, B2, e2, rfl, o2, hb2⟩; refine Hid.out ?_)
  refine Lib.hid ?_
  clear hM
  have b1 := b1.below hb2
  have h1 := h1.below hb2
  have BB := bel_then BB hb2
  clear hb2
  have h2 := o2.lies
  clear o2
  have b2 := Bx.new w2 25 (.slice A2 D.cells.length c2) (.slice B2 D.waits.length e2) (.bool D.gone)
  have bl : Below w2.heap.size w2 (w2.alloc (.cells #[.slice A2 D.cells.length c2, .slice B2 D.waits.length e2, .bool D.gone] 25)) := bel_new (Below.refl _ _) _
  have b1 := b1.below bl
  have h1 := h1.below bl
  have h2 := h2.below bl
  have BB := bel_then BB bl
  clear bl
  obtain ⟨⟨x10, x11, x12⟩, _⟩ := b1.cells
  obtain ⟨⟨x20, x21, x22⟩, _⟩ := b2.cells
  have hC := pf_disk A1 B1 A2 B2 c1 e1 c2 e2 D _ hkD.cells hkD.waits h1 h2
  go_wp2_with (go_at_call 43; refine hC.mono ?_; rintro r w3 ⟨rfl, hb3⟩; refine Hid.out ?_)
  refine Lib.hid ?_
  clear hC
  clear x10 x11 x12 x20 x21 x22
  have b1 := b1.below hb3
  have b2 := b2.below hb3
  have h1 := h1.below hb3
  have h2 := h2.below hb3
  have BB := bel_then BB hb3
  clear hb3
  clear b2 h2
  obtain ⟨⟨x10, x11, x12⟩, _⟩ := b1.cells
  have hC := impl_readAt A1 B1 c1 e1 D (k : Int) _ hkD h1 HR.out
  go_wp2_with (go_at_call 32; refine hC.mono ?_; rintro r w4 ⟨rfl, hb4⟩; refine Hid.out ?_)
  refine Lib.hid ?_
  clear hC
  clear x10 x11 x12
  have b1 := b1.below hb4
  have h1 := h1.below hb4
  have BB := bel_then BB hb4
  clear hb4
  obtain ⟨⟨x10, x11, x12⟩, _⟩ := b1.cells
  have hC := hwr A1 B1 c1 e1 _ h1
  go_wp2_with (go_at_call 34; refine hC.mono ?_; rintro r w5 ⟨A3, c3, B3, e3, rfl, o3, hb5⟩; refine Hid.out ?_)
  refine Lib.hid ?_
  clear hC hwr
  clear x10 x11 x12
  have b1 := b1.below hb5
  have h1 := h1.below hb5
  have BB := bel_then BB hb5
  clear hb5
  have h3 := o3.lies
  clear o3
  have b3 := Bx.new w5 25 (.slice A3 D.cells.length c3) (.slice B3 D.waits.length e3) (.bool D.gone)
  have bl : Below w5.heap.size w5 (w5.alloc (.cells #[.slice A3 D.cells.length c3, .slice B3 D.waits.length e3, .bool D.gone] 25)) := bel_new (Below.refl _ _) _
  have b1 := b1.below bl
  have h1 := h1.below bl
  have h3 := h3.below bl
  have BB := bel_then BB bl
  clear bl
  obtain ⟨⟨x10, x11, x12⟩, _⟩ := b1.cells
  have hC := impl_okAt A1 B1 c1 e1 D _ hkD h1 HO.out
  go_wp2_with (go_at_call 30; refine hC.mono ?_; rintro r w6 ⟨rfl, hb6⟩; refine Hid.out ?_)
  refine Lib.hid ?_
  clear hC
  clear x10 x11 x12
  have b1 := b1.below hb6
  have b3 := b3.below hb6
  have h1 := h1.below hb6
  have h3 := h3.below hb6
  have BB := bel_then BB hb6
  clear hb6
  obtain ⟨⟨x10, x11, x12⟩, _⟩ := b1.cells
  obtain ⟨⟨x30, x31, x32⟩, _⟩ := b3.cells
  have hC := pf_disk A3 B3 A1 B1 c3 e3 c1 e1 D _ hkD.cells hkD.waits h3 h1
  go_wp2_with (go_at_call 43; refine hC.mono ?_; rintro r w9 ⟨rfl, hb9⟩)
  go_ret
  exact ⟨rfl, bel_then BB hb9⟩
end Go.Proofs.Ytadgknkheachaaa
