/-
  The small functions: whether a number lies between two, whether a row is one for blocks, whether nothing is used of it, whether it may be used so.
-/
import Derived.Test.YtmnamclndpfjnaaGen
import Derived.Test.YtmnamclndpfjnaaSto
import Derived.Test.YtmnamclndpfjnaaProg
import Derived.Laws.StructEq
import Derived.ProofKit
namespace Go.Proofs.Ytmnamclndpfjnaa
open Go.RowKit

def freeB (x y : Int) : Bool := x == 0 && y == 0
def useB (x y : Int) : Bool := inB x 1 900 && inB y x 900

@[go_sem] theorem eq113 (a b a' b' : Int) (w : World) :
    (Op.equalIn 10000 113 (.agg #[.int .i64 a, .int .i64 b]) (.agg #[.int .i64 a', .int .i64 b'])).run Try.prog w = .ok (a == a' && b == b') w := by
  have u3 := Try.underlying3
  have a3 := Try.isAgg3
  have z3 := Try.sizeOf3
  have hS : Try.prog.underlying 113 = some (.struct (Try.prog.fieldsOf 113)) := by kernel_rfl
  have hp : Try.prog.stoodInHeld 113 = false := by kernel_rfl
  rw [show (10000 : Nat) = 9999 + 1 from rfl, run_equalIn_agg w 9999 113 _ _ hS hp]
  simp only [Program.fieldsOf, Try.underlying113]
  go_simp
  by_cases h1 : a = a' <;> by_cases h2 : b = b' <;> simp [h1, h2]

theorem i_in (n lo hi : Int) (w : World) : Calls Try.prog 63 #[.int .i64 n, .int .i64 lo, .int .i64 hi] w fun e w' => e = .returned (.bool (inB n lo hi)) ∧ w = w' := by
  by_cases h : lo ≤ n ∧ n ≤ hi
  · rw [inB_yes h]
    obtain ⟨h1, h2⟩ := h
    go_enter Try.func63, Try.ntmps63
    go_wp2
    go_ret
    exact ⟨rfl, rfl⟩
  · rw [inB_no h]
    by_cases h1 : lo ≤ n
    · have h2 : ¬ n ≤ hi := fun e => h ⟨h1, e⟩
      clear h
      go_enter Try.func63, Try.ntmps63
      go_wp2
      go_ret
      exact ⟨rfl, rfl⟩
    · clear h
      go_enter Try.func63, Try.ntmps63
      go_wp2
      go_ret
      exact ⟨rfl, rfl⟩
theorem s_in (n lo hi : Int) (w : World) : Calls Try.prog 49 #[.int .i64 n, .int .i64 lo, .int .i64 hi] w fun e w' => e = .returned (.bool (inB n lo hi)) ∧ w = w' := by
  by_cases h : lo ≤ n ∧ n ≤ hi
  · rw [inB_yes h]
    obtain ⟨h1, h2⟩ := h
    go_enter Try.func49, Try.ntmps49
    go_wp2
    go_ret
    exact ⟨rfl, rfl⟩
  · rw [inB_no h]
    by_cases h1 : lo ≤ n
    · have h2 : ¬ n ≤ hi := fun e => h ⟨h1, e⟩
      clear h
      go_enter Try.func49, Try.ntmps49
      go_wp2
      go_ret
      exact ⟨rfl, rfl⟩
    · clear h
      go_enter Try.func49, Try.ntmps49
      go_wp2
      go_ret
      exact ⟨rfl, rfl⟩
theorem i_row (n : Int) (w : World) : Calls Try.prog 91 #[.int .i64 n] w fun e w' => e = .returned (.bool (inB n 8 63)) ∧ w = w' := by
  go_enter Try.func91, Try.ntmps91
  go_wp2_with (go_at_call 63; refine (i_in _ _ _ _).mono ?_; rintro e w' ⟨rfl, rfl⟩)
  go_ret
  exact ⟨rfl, rfl⟩
theorem s_row (n : Int) (w : World) : Calls Try.prog 84 #[.int .i64 n] w fun e w' => e = .returned (.bool (inB n 8 63)) ∧ w = w' := by
  go_enter Try.func84, Try.ntmps84
  go_wp2_with (go_at_call 49; refine (s_in _ _ _ _).mono ?_; rintro e w' ⟨rfl, rfl⟩)
  go_ret
  exact ⟨rfl, rfl⟩
theorem i_free (x y : Int) (w : World) : Calls Try.prog 117 #[.agg #[.int .i64 x, .int .i64 y]] w fun e w' => e = .returned (.bool (freeB x y)) ∧ w' = w.alloc (.cells #[.int .i64 x, .int .i64 y] 113) := by
  go_enter Try.func117, Try.ntmps117
  go_wp2
  all_goals go_ret
  all_goals exact ⟨by simp [freeB, *], by simp [*]⟩
theorem i_use (x y : Int) (w : World) : Calls Try.prog 118 #[.agg #[.int .i64 x, .int .i64 y]] w fun e w' => e = .returned (.bool (useB x y)) ∧ w' = w.alloc (.cells #[.int .i64 x, .int .i64 y] 113) := by
  by_cases h : inB x 1 900 = true
  · have hu : useB x y = inB y x 900 := by simp [useB, h]
    rw [hu]
    have hI := fun w => i_in x 1 900 w
    rw [h] at hI
    clear h hu
    go_enter Try.func118, Try.ntmps118
    go_wp2_with (go_at_call 63; first | (with_reducible refine (hI _).mono ?_; rintro e w' ⟨rfl, rfl⟩) | (refine (i_in _ _ _ _).mono ?_; rintro e w' ⟨rfl, rfl⟩))
    go_ret
    exact ⟨rfl, rfl⟩
  · have h' : inB x 1 900 = false := by simpa using h
    have hu : useB x y = false := by simp [useB, h']
    rw [hu]
    have hI := fun w => i_in x 1 900 w
    rw [h'] at hI
    clear h hu h'
    go_enter Try.func118, Try.ntmps118
    go_wp2_with (go_at_call 63; refine (hI _).mono ?_; rintro e w' ⟨rfl, rfl⟩)
    go_ret
    exact ⟨rfl, rfl⟩
end Go.Proofs.Ytmnamclndpfjnaa
