/-
  PtrFits: both ways agree, and the law's walk over them.
-/
import Derived.Test.YtlfggmllpbghaaaFitsA
import Derived.Test.YtlfggmllpbghaaaFitsB
import Derived.Test.YtlfggmllpbghaaaFitsC
import Derived.Test.YtlfggmllpbghaaaFitsD
namespace Go.Proofs.Ytlfggmllpbghaaa
open Go.RowKit

theorem dec_beq (x y : Int) : decide (x = y) = (x == y) := by by_cases h : x = y <;> simp [h]

theorem spec_fits (a b c d e : Int) (s : ByteArray) (w : World) (hs : s.size ≤ maxLen) : Calls Try.prog 16 #[.agg #[.int .i64 a, .int .i64 b, .int .i64 c, .int .i64 d, .int .i64 e], .string s] w fun r w' => r = .returned (.bool (fitsB a b c d e s)) ∧ Below w.heap.size w w' := by
  have hO : ∀ w, Calls Try.prog 18 #[.agg #[.int .i64 a, .int .i64 b, .int .i64 c, .int .i64 d, .int .i64 e]] w fun r w' => r = .returned (.bool (isOk a b c d e)) ∧ Below w.heap.size w w' := fun w => (spec_ok a b c d e w).mono fun r w' ⟨h1, h2⟩ => ⟨h1, h2 ▸ bel_new (bel_new (Below.refl _ _) _) _⟩
  have hM : ∀ w, Calls Try.prog 20 #[.agg #[.int .i64 a, .int .i64 b, .int .i64 c, .int .i64 d, .int .i64 e]] w fun r w' => r = .returned (.bool (isHole a b c d e)) ∧ Below w.heap.size w w' := fun w => (spec_hole a b c d e w).mono fun r w' ⟨h1, h2⟩ => ⟨h1, h2 ▸ bel_new (Below.refl _ _) _⟩
  have hS : ∀ w, Calls Try.prog 29 #[.string s] w fun r w' => r = .returned (.int .i64 (sumT s.data.toList)) ∧ Below w.heap.size w w' := fun w => (spec_sum s w hs).mono fun r w' ⟨h1, h2⟩ => ⟨h1, h2 ▸ Below.refl _ _⟩
  unfold fitsB
  generalize sumT s.data.toList = z at hS ⊢
  cases ho : isOk a b c d e <;> rw [ho] at hO
  · exact fits_a a b c d e z s w (isHole a b c d e) _ _ hO hM hS rfl (dec_beq _ _) rfl (dec_beq _ _)
  · cases hh : isHole a b c d e <;> rw [hh] at hM
    · cases hx : (c == (s.size : Int))
      · exact fits_c a b c d e z s w _ hO hM hS hx ((dec_beq _ _).trans hx) rfl (dec_beq _ _)
      · cases hy : (d == z)
        · exact fits_d1 a b c d e z s w hO hM hS hx ((dec_beq _ _).trans hx) hy ((dec_beq _ _).trans hy)
        · exact fits_d2 a b c d e z s w hO hM hS hx ((dec_beq _ _).trans hx) hy ((dec_beq _ _).trans hy)
    · exact fits_b a b c d e z s w _ _ hO hM hS rfl (dec_beq _ _) rfl (dec_beq _ _)

set_option maxHeartbeats 4000000 in
theorem walk_fits (a b c d e : Int) (s : ByteArray) (w : World) (hs : s.size ≤ maxLen) : Calls Try.prog 8 #[.agg #[.int .i64 a, .int .i64 b, .int .i64 c, .int .i64 d, .int .i64 e], .string s] w fun r w' => r = .returned (.bool true) ∧ Below w.heap.size w w' := by
  have hI := fun w => impl_fits a b c d e s w hs
  have hS := fun w => spec_fits a b c d e s w hs
  obtain ⟨z, hz⟩ : ∃ z, z = fitsB a b c d e s := ⟨_, rfl⟩
  rw [← hz] at hI hS
  have hq : (z != z) = false := by cases z <;> rfl
  clear hz
  by_cases hb : (1048576 : Int) < (s.size : Int)
  · go_enter Try.func8, Try.ntmps8
    go_wp2
    go_ret
    exact ⟨rfl, (by repeat' (first | exact Below.refl _ _ | refine bel_new ?_ _ | refine Below.drew ?_))⟩
  · go_enter Try.func8, Try.ntmps8
    go_wp2_with (first | (go_at_call 19; refine (to_ptr _ _ _ _ _ _).mono ?_; rintro r w' ⟨rfl, rfl⟩) | (go_at_call 16; refine (hS _).mono ?_; rintro r w1 ⟨rfl, hb1⟩; have q0 := box_cell (bel_then (bel_new (bel_new (bel_new (Below.refl _ _) _) _) _) hb1) 0 _ rfl; have q1 := box_cell (bel_then (bel_new (bel_new (bel_new (Below.refl _ _) _) _) _) hb1) 1 _ rfl; have q2 := box_cell (bel_then (bel_new (bel_new (bel_new (Below.refl _ _) _) _) _) hb1) 2 _ rfl; have q3 := box_cell (bel_then (bel_new (bel_new (bel_new (Below.refl _ _) _) _) _) hb1) 3 _ rfl; have q4 := box_cell (bel_then (bel_new (bel_new (bel_new (Below.refl _ _) _) _) _) hb1) 4 _ rfl) | (go_at_call 13; refine (hI _).mono ?_; rintro r w2 ⟨rfl, hb2⟩))
    go_ret
    exact ⟨rfl, bel_then (bel_new (bel_new (bel_new (bel_then (bel_new (bel_new (bel_new (bel_new (Below.refl _ _) _) _) _) _) hb1) _) _) _) hb2⟩
end Go.Proofs.Ytlfggmllpbghaaa
