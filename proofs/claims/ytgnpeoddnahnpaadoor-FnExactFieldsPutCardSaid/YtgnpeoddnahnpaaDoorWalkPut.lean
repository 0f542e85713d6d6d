/-
  FnExactFieldsPut, its walk: the law answers true at every slice of strings.
-/
import Derived.Test.YtgnpeoddnahnpaaDoorPutI
namespace Go.Proofs.YtgnpeoddnahnpaaDoor
open Go.RowKit

theorem tab_up {P : Program} {B B' : Nat} {w : World} {n : String} {k : IntKind} {zs : List Int} (h : Lib.TabBelow P B w n k zs) (hB : B ≤ B') : Lib.TabBelow P B' w n k zs := fun w' hb => h w' (hb.mono hB)
theorem tab_at {W w : World} {n : String} {k : IntKind} {zs : List Int} (h : Lib.TabBelow Tryd.prog W.heap.size W n k zs) (hb : Below W.heap.size W w) : Lib.TabBelow Tryd.prog w.heap.size w n k zs := tab_up (h.on hb) hb.size

theorem tot_mem {ss : List ByteArray} {B : Nat} (h : ss.length + tot ss ≤ B) : ss.length ≤ B ∧ ∀ s ∈ ss, s.size ≤ B :=
  ⟨by omega, fun s hs => by have := tot_le ss s hs; omega⟩

set_option maxRecDepth 100000 in
set_option maxHeartbeats 1000000 in
theorem walk_put (A : Option Addr) (cap : Nat) (ss : List ByteArray) (w : World) (hn : ss.length ≤ maxLen) (hs : ∀ s ∈ ss, s.size ≤ maxLen) (hA : StrsAt w A ss)
    (hT : Lib.TabBelow Tryd.prog w.heap.size w "internal/strconv.uint64pow10" .u64 Lib.pow10Tab) :
    Calls Tryd.prog 3 #[.slice A ss.length cap] w fun e w' => e = .returned (.bool true) ∧ Below w.heap.size w w' := by
  have hZ := sz_any A cap ss 1048576 w (by omega) (by omega) hn hs hA
  by_cases hfit : ss.length + tot ss ≤ 1048576
  · obtain ⟨hn1, hs1⟩ := tot_mem hfit
    obtain ⟨r, hr⟩ : ∃ r, r = fput ss := ⟨_, rfl⟩
    have hTo := fun (w1 : World) (hb : Below w.heap.size w w1) => to_any A cap ss w1 hn1 (hA.below hb)
    have hS := fun (B : Option Addr) (c : Nat) (w1 : World) (hB : StrsAt w1 B ss) => spec_fput B c ss w1 hn1 hs1 hB
    have hI := fun (B : Option Addr) (c : Nat) (w1 : World) (hB : StrsAt w1 B ss) (hb : Below w.heap.size w w1) => impl_fput B c ss w1 hn1 hs1 hB (tab_at hT hb)
    have hQ := fun (B C : Option Addr) (c d : Nat) (w1 : World) (hB : StrsAt w1 B ss) (hC : StrsAt w1 C ss) => eq_same B C c d ss w1 hn1 hB hC
    rw [← hr] at hS hI
    clear hr hT hs hn hs1
    go_enter Tryd.func3, Tryd.ntmps3
    go_wp2_with (go_at_call 13; refine hZ.mono ?_; rintro e w1 ⟨z, rfl, rfl, -⟩; refine Hid.out ?_)
    refine Lib.hid ?_
    by_cases hz : z < 0
    · go_wp2_with fail
      go_ret
      exact ⟨rfl, Below.refl _ _⟩
    · go_wp2_with (go_at_call 15; refine (hTo _ (Below.refl _ _)).mono ?_; rintro e w1 ⟨g1, rfl, ho1, hb1⟩; refine Hid.out ?_)
      refine Lib.hid ?_
      have a1 := StrsAt.of_own ho1 rfl
      clear ho1
      go_wp2_with (go_at_call 14; refine (hS _ _ _ a1).mono ?_; rintro e w2 ⟨rfl, hb2⟩; refine Hid.out ?_)
      refine Lib.hid ?_
      have b2 : Below w.heap.size w w2 := hb1.trans (hb2.mono hb1.size)
      go_wp2_with (go_at_call 15; refine (hTo _ b2).mono ?_; rintro e w3 ⟨g3, rfl, ho3, hb3⟩; refine Hid.out ?_)
      refine Lib.hid ?_
      have b3 : Below w.heap.size w w3 := b2.trans (hb3.mono b2.size)
      have a3 := StrsAt.of_own ho3 rfl
      clear ho3
      go_wp2_with (go_at_call 16; refine (hI _ _ _ a3 b3).mono ?_; rintro e w4 ⟨rfl, hb4⟩; refine Hid.out ?_)
      refine Lib.hid ?_
      have b4 : Below w.heap.size w w4 := b3.trans (hb4.mono b3.size)
      have a4 := a3.below hb4
      go_wp2_with (go_at_call 15; refine (hTo _ b4).mono ?_; rintro e w5 ⟨g5, rfl, ho5, hb5⟩; refine Hid.out ?_)
      refine Lib.hid ?_
      have b5 : Below w.heap.size w w5 := b4.trans (hb5.mono b4.size)
      have a5 := StrsAt.of_own ho5 rfl
      have a6 := a4.below hb5
      clear ho5
      go_wp2_with (go_at_call 17; refine (hQ _ _ _ _ _ a6 a5).mono ?_; rintro e w6 ⟨rfl, q, rfl⟩)
      go_ret
      exact ⟨rfl, below_drewN b5 q⟩
  · have hZ2 : Calls Tryd.prog 13 #[.slice A ss.length cap, .int .i64 1048576] w fun e w' => ∃ z : Int, e = .returned (.int .i64 z) ∧ w = w' ∧ z < 0 := hZ.mono fun e w' ⟨z, he, hw, hz⟩ => ⟨z, he, hw, by
      rcases Int.lt_or_le z 0 with h | h
      · exact h
      · have := hz h; omega⟩
    clear hZ hT
    go_enter Tryd.func3, Tryd.ntmps3
    go_wp2_with (go_at_call 13; refine hZ2.mono ?_; rintro e w1 ⟨z, rfl, rfl, hz⟩)
    go_ret
    exact ⟨rfl, Below.refl _ _⟩

end Go.Proofs.YtgnpeoddnahnpaaDoor
