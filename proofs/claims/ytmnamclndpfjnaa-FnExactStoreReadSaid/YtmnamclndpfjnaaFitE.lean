/-
  PtrFits: both ways agree, and the law's walk over them.
-/
import Derived.Test.YtmnamclndpfjnaaFitA
import Derived.Test.YtmnamclndpfjnaaFitB
import Derived.Test.YtmnamclndpfjnaaFitC
import Derived.Test.YtmnamclndpfjnaaFitD
namespace Go.Proofs.Ytmnamclndpfjnaa
open Go.RowKit

theorem dec_beq (x y : Int) : decide (x = y) = (x == y) := by by_cases h : x = y <;> simp [h]

theorem spec_fits (a b c d e : Int) (s : ByteArray) (w : World) (hs : s.size ≤ maxLen) : Calls Try.prog 89 #[.agg #[.int .i64 a, .int .i64 b, .int .i64 c, .int .i64 d, .int .i64 e], .string s] w fun r w' => r = .returned (.bool (fitsB a b c d e s)) ∧ Below w.heap.size w w' := by
  have hO : ∀ w, Calls Try.prog 50 #[.agg #[.int .i64 a, .int .i64 b, .int .i64 c, .int .i64 d, .int .i64 e]] w fun r w' => r = .returned (.bool (isOk a b c d e)) ∧ Below w.heap.size w w' := fun w => (spec_pok a b c d e w).mono fun r w' ⟨h1, h2⟩ => ⟨h1, h2 ▸ bel_new (bel_new (Below.refl _ _) _) _⟩
  have hM : ∀ w, Calls Try.prog 51 #[.agg #[.int .i64 a, .int .i64 b, .int .i64 c, .int .i64 d, .int .i64 e]] w fun r w' => r = .returned (.bool (isHole a b c d e)) ∧ Below w.heap.size w w' := fun w => (spec_hole a b c d e w).mono fun r w' ⟨h1, h2⟩ => ⟨h1, h2 ▸ bel_new (Below.refl _ _) _⟩
  have hS : ∀ w, Calls Try.prog 109 #[.string s] w fun r w' => r = .returned (.int .i64 (sumT s.data.toList)) ∧ Below w.heap.size w w' := fun w => (spec_sum s w hs).mono fun r w' ⟨h1, h2⟩ => ⟨h1, h2 ▸ Below.refl _ _⟩
  unfold fitsB
  generalize sumT s.data.toList = z at hS ⊢
  cases ho : isOk a b c d e <;> rw [ho] at hO
  · exact fits_a a b c d e z s w (isHole a b c d e) _ _ hO hM hS rfl (dec_beq _ _) rfl (dec_beq _ _)
  · cases hh : isHole a b c d e <;> rw [hh] at hM
    · cases hx : (c == (s.size : Int))
      · exact fits_c a b c d e z s w _ hO hM hS hx ((dec_beq _ _).trans hx) rfl (dec_beq _ _)
      · cases hy : (d == z)
        · exact fits_d1 a b c d e z s w hO hM hS hx ((dec_beq _ _).trans hx) hy ((dec_beq _ _).trans hy)
        · exact fits_d2 a b c d e z s w hO hM hS hx ((dec_beq _ _).trans hx) hy ((dec_beq _ _).trans hy)
    · exact fits_b a b c d e z s w _ _ hO hM hS rfl (dec_beq _ _) rfl (dec_beq _ _)
end Go.Proofs.Ytmnamclndpfjnaa
