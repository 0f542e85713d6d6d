/-
  l91Mask: a mask.
-/
import Derived.Test.YtadgknkheachaaaCel
namespace Go.Proofs.Ytadgknkheachaaa
open Go.RowKit

set_option maxRecDepth 100000 in
set_option maxHeartbeats 2000000 in
theorem mask_gr (w0 w : World) (B : Nat) (A : Option Addr) (m cap p : Nat) (h : IsRd w0 w B A m cap p) (hp : p ≤ 400000) :
    Calls Try.prog 78 #[.pointer (some ⟨B, 0, none⟩)] w (NumPost w0 w B A m cap p (-1) 1152921504606846975 3) := by
  have hK := pick_rd w0 w B A m cap p 5 h (by omega) (by omega) (by omega)
  clear h
  go_enter Try.func78, Try.ntmps78
  go_wp2_with (go_at_call 79; refine hK.mono ?_; rintro e w1 ⟨x, x0, x1, rfl, h1, g1⟩; refine Hid.out ?_)
  refine Lib.hid ?_
  clear hK
  by_cases hx : x = 0
  · subst hx
    have hK := fun o => pick_rd w0 (w1.alloc o) B A m cap (p + 1) 3 (h1.alloc o) (by omega) (by omega) (by omega)
    have hB := h1.lt
    go_wp2_with (go_at_call 79; refine (hK _).mono ?_; rintro e w2 ⟨y, y0, y1, rfl, h2, g2⟩; refine Hid.out ?_)
    refine Lib.hid ?_
    obtain ⟨k, rfl⟩ : ∃ k : Nat, y = (k : Int) := ⟨y.toNat, by omega⟩
    obtain ⟨z, hz, hc⟩ := lit3 w1 w2 B 0 1152921504606846975 (-1) hB g2 k (by omega)
    have g3 := (g1.trans (World.grownBy_alloc w1 _ (some B))).trans g2
    clear hK g1 g2 h1
    go_wp2_with fail
    go_ret
    exact ⟨z, _, rfl, by omega, by omega, h2, by omega, g3⟩
  have hx' : (x == 0) = false := by simpa using hx
  by_cases hy : x = 1
  · subst hy
    have hK := pick_rd w0 w1 B A m cap (p + 1) 12 h1 (by omega) (by omega) (by omega)
    clear hx hx'
    go_wp2_with (go_at_call 79; refine hK.mono ?_; rintro e w2 ⟨y, y0, y1, rfl, h2, g2⟩; refine Hid.out ?_)
    refine Lib.hid ?_
    have g3 := g1.trans g2
    clear hK g1 g2 h1 x0 x1
    rcases (show y = 0 ∨ y = 1 ∨ y = 2 ∨ y = 3 ∨ y = 4 ∨ y = 5 ∨ y = 6 ∨ y = 7 ∨ y = 8 ∨ y = 9 ∨ y = 10 ∨ y = 11 by omega) with rfl | rfl | rfl | rfl | rfl | rfl | rfl | rfl | rfl | rfl | rfl | rfl
    all_goals
      go_wp2_with fail
      go_ret
      exact ⟨_, _, rfl, by decide, by decide, h2, by omega, g3⟩
  have hy' : (x == 1) = false := by simpa using hy
  have hK := pick_rd w0 w1 B A m cap (p + 1) 256 h1 (by omega) (by omega) (by omega)
  go_wp2_with (go_at_call 79; refine hK.mono ?_; rintro e w2 ⟨y, y0, y1, rfl, h2, g2⟩; refine Hid.out ?_)
  refine Lib.hid ?_
  have g3 := g1.trans g2
  clear hK g1 g2 h1
  have hK := pick_rd w0 w2 B A m cap (p + 1 + 1) 256 h2 (by omega) (by omega) (by omega)
  go_wp2_with (go_at_call 79; refine hK.mono ?_; rintro e w4 ⟨z, z0, z1, rfl, h4, g4⟩; refine Hid.out ?_)
  refine Lib.hid ?_
  have hw := IntWalk.i64_in (256 * z) (by omega)
  have hw2 := IntWalk.i64_in (y + 256 * z) (by omega)
  have g5 := g3.trans g4
  clear hK g3 g4 h2
  go_wp2_with fail
  go_ret
  exact ⟨y + 256 * z, _, rfl, by omega, by omega, h4, by omega, g5⟩
end Go.Proofs.Ytadgknkheachaaa
