/-
  The small functions: whether a number lies between two, whether a row is one for blocks, whether nothing is used of it, whether it may be used so.
-/
import Derived.Test.YtlmemjfinpccoaaGen
import Derived.Test.YtlmemjfinpccoaaSp
import Derived.Test.YtlmemjfinpccoaaProg
import Derived.Laws.StructEq
import Derived.ProofKit
namespace Go.Proofs.Ytlmemjfinpccoaa
open Go.RowKit

def inB (n lo hi : Int) : Bool := decide (lo ≤ n ∧ n ≤ hi)
theorem inB_yes {n lo hi : Int} (h : lo ≤ n ∧ n ≤ hi) : inB n lo hi = true := by simp [inB, h]
theorem inB_no {n lo hi : Int} (h : ¬ (lo ≤ n ∧ n ≤ hi)) : inB n lo hi = false := by simp only [inB, decide_eq_false_iff_not]; exact h
def freeB (x y : Int) : Bool := x == 0 && y == 0
def useB (x y : Int) : Bool := inB x 1 900 && inB y x 900

@[go_sem] theorem eq75 (a b a' b' : Int) (w : World) :
    (Op.equalIn 10000 75 (.agg #[.int .i64 a, .int .i64 b]) (.agg #[.int .i64 a', .int .i64 b'])).run Try.prog w = .ok (a == a' && b == b') w := by
  have u3 := Try.underlying3
  have a3 := Try.isAgg3
  have z3 := Try.sizeOf3
  have hS : Try.prog.underlying 75 = some (.struct (Try.prog.fieldsOf 75)) := by kernel_rfl
  have hp : Try.prog.stoodInHeld 75 = false := by kernel_rfl
  rw [show (10000 : Nat) = 9999 + 1 from rfl, run_equalIn_agg w 9999 75 _ _ hS hp]
  simp only [Program.fieldsOf, Try.underlying75]
  go_simp
  by_cases h1 : a = a' <;> by_cases h2 : b = b' <;> simp [h1, h2]

theorem i_in (n lo hi : Int) (w : World) : Calls Try.prog 66 #[.int .i64 n, .int .i64 lo, .int .i64 hi] w fun e w' => e = .returned (.bool (inB n lo hi)) ∧ w = w' := by
  by_cases h : lo ≤ n ∧ n ≤ hi
  · rw [inB_yes h]
    obtain ⟨h1, h2⟩ := h
    go_enter Try.func66, Try.ntmps66
    go_wp2
    go_ret
    exact ⟨rfl, rfl⟩
  · rw [inB_no h]
    by_cases h1 : lo ≤ n
    · have h2 : ¬ n ≤ hi := fun e => h ⟨h1, e⟩
      clear h
      go_enter Try.func66, Try.ntmps66
      go_wp2
      go_ret
      exact ⟨rfl, rfl⟩
    · clear h
      go_enter Try.func66, Try.ntmps66
      go_wp2
      go_ret
      exact ⟨rfl, rfl⟩
theorem s_in (n lo hi : Int) (w : World) : Calls Try.prog 58 #[.int .i64 n, .int .i64 lo, .int .i64 hi] w fun e w' => e = .returned (.bool (inB n lo hi)) ∧ w = w' := by
  by_cases h : lo ≤ n ∧ n ≤ hi
  · rw [inB_yes h]
    obtain ⟨h1, h2⟩ := h
    go_enter Try.func58, Try.ntmps58
    go_wp2
    go_ret
    exact ⟨rfl, rfl⟩
  · rw [inB_no h]
    by_cases h1 : lo ≤ n
    · have h2 : ¬ n ≤ hi := fun e => h ⟨h1, e⟩
      clear h
      go_enter Try.func58, Try.ntmps58
      go_wp2
      go_ret
      exact ⟨rfl, rfl⟩
    · clear h
      go_enter Try.func58, Try.ntmps58
      go_wp2
      go_ret
      exact ⟨rfl, rfl⟩
theorem i_row (n : Int) (w : World) : Calls Try.prog 62 #[.int .i64 n] w fun e w' => e = .returned (.bool (inB n 8 63)) ∧ w = w' := by
  go_enter Try.func62, Try.ntmps62
  go_wp2_with (go_at_call 66; refine (i_in _ _ _ _).mono ?_; rintro e w' ⟨rfl, rfl⟩)
  go_ret
  exact ⟨rfl, rfl⟩
theorem s_row (n : Int) (w : World) : Calls Try.prog 59 #[.int .i64 n] w fun e w' => e = .returned (.bool (inB n 8 63)) ∧ w = w' := by
  go_enter Try.func59, Try.ntmps59
  go_wp2_with (go_at_call 58; refine (s_in _ _ _ _).mono ?_; rintro e w' ⟨rfl, rfl⟩)
  go_ret
  exact ⟨rfl, rfl⟩
theorem i_free (x y : Int) (w : World) : Calls Try.prog 63 #[.agg #[.int .i64 x, .int .i64 y]] w fun e w' => e = .returned (.bool (freeB x y)) ∧ w' = w.alloc (.cells #[.int .i64 x, .int .i64 y] 75) := by
  go_enter Try.func63, Try.ntmps63
  go_wp2
  all_goals go_ret
  all_goals exact ⟨by simp [freeB, *], by simp [*]⟩
theorem i_use (x y : Int) (w : World) : Calls Try.prog 81 #[.agg #[.int .i64 x, .int .i64 y]] w fun e w' => e = .returned (.bool (useB x y)) ∧ w' = w.alloc (.cells #[.int .i64 x, .int .i64 y] 75) := by
  by_cases h : inB x 1 900 = true
  · have hu : useB x y = inB y x 900 := by simp [useB, h]
    rw [hu]
    have hI := fun w => i_in x 1 900 w
    rw [h] at hI
    clear h hu
    go_enter Try.func81, Try.ntmps81
    go_wp2_with (go_at_call 66; first | (with_reducible refine (hI _).mono ?_; rintro e w' ⟨rfl, rfl⟩) | (refine (i_in _ _ _ _).mono ?_; rintro e w' ⟨rfl, rfl⟩))
    go_ret
    exact ⟨rfl, rfl⟩
  · have h' : inB x 1 900 = false := by simpa using h
    have hu : useB x y = false := by simp [useB, h']
    rw [hu]
    have hI := fun w => i_in x 1 900 w
    rw [h'] at hI
    clear h hu h'
    go_enter Try.func81, Try.ntmps81
    go_wp2_with (go_at_call 66; refine (hI _).mono ?_; rintro e w' ⟨rfl, rfl⟩)
    go_ret
    exact ⟨rfl, rfl⟩
end Go.Proofs.Ytlmemjfinpccoaa
