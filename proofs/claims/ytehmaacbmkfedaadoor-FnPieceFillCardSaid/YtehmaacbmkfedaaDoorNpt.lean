/-
  Pointers: five numbers each; a hole, a valid one; a law's copy of one.
-/
import Derived.Test.YtehmaacbmkfedaaDoorNim
import Derived.WalkKit
import Derived.WalkSpells
import Derived.Lib.Hide
import Derived.OpenShut
import Derived.Laws.ResultCell
import Derived.Laws.Rows
namespace Go.Proofs.YtehmaacbmkfedaaDoor
open Go.RowKit

@[go_sem] theorem eq29 (a b c d e a' b' c' d' e' : Int) (w : World) :
    (Op.equalIn 10000 29 (.agg #[.int .i64 a, .int .i64 b, .int .i64 c, .int .i64 d, .int .i64 e]) (.agg #[.int .i64 a', .int .i64 b', .int .i64 c', .int .i64 d', .int .i64 e'])).run Tryd.prog w = .ok (same a b c d e a' b' c' d' e') w := by
  unfold same
  have u3 := Tryd.underlying3
  have a3 := Tryd.isAgg3
  have z3 := Tryd.sizeOf3
  have hS : Tryd.prog.underlying 29 = some (.struct (Tryd.prog.fieldsOf 29)) := by kernel_rfl
  have hp : Tryd.prog.stoodInHeld 29 = false := by kernel_rfl
  rw [show (10000 : Nat) = 9999 + 1 from rfl, run_equalIn_agg w 9999 29 _ _ hS hp]
  simp only [Program.fieldsOf, Tryd.underlying29]
  go_simp
  by_cases h1 : a = a' <;> by_cases h2 : b = b' <;> by_cases h3 : c = c' <;> by_cases h4 : d = d' <;> by_cases h5 : e = e' <;> simp [h1, h2, h3, h4, h5]

theorem spec_hole (a b c d e : Int) (w : World) : Calls Tryd.prog 44 #[.agg #[.int .i64 a, .int .i64 b, .int .i64 c, .int .i64 d, .int .i64 e]] w fun r w' => r = .returned (.bool (isHole a b c d e)) ∧ w' = w.alloc (.cells #[.int .i64 a, .int .i64 b, .int .i64 c, .int .i64 d, .int .i64 e] 29) := by
  go_enter Tryd.func44, Tryd.ntmps44
  go_wp2
  all_goals go_ret
  all_goals exact ⟨by simp [isHole, same, *], by simp [*]⟩
theorem m_hole (a b c d e : Int) (w : World) : Calls Tryd.prog 73 #[.agg #[.int .i64 a, .int .i64 b, .int .i64 c, .int .i64 d, .int .i64 e]] w fun r w' => r = .returned (.bool (isHole a b c d e)) ∧ w' = w.alloc (.cells #[.int .i64 a, .int .i64 b, .int .i64 c, .int .i64 d, .int .i64 e] 29) := by
  go_enter Tryd.func73, Tryd.ntmps73
  go_wp2
  all_goals go_ret
  all_goals exact ⟨by simp [isHole, same, *], by simp [*]⟩
set_option maxHeartbeats 2000000 in
theorem m_ok (a b c d e : Int) (w : World) : Calls Tryd.prog 72 #[.agg #[.int .i64 a, .int .i64 b, .int .i64 c, .int .i64 d, .int .i64 e]] w fun r w' => r = .returned (.bool (isOk a b c d e)) ∧ w' = (w.alloc (.cells #[.int .i64 a, .int .i64 b, .int .i64 c, .int .i64 d, .int .i64 e] 29)).alloc (.cells #[.int .i64 a, .int .i64 b, .int .i64 c, .int .i64 d, .int .i64 e] 29) := by
  have hM := fun w => m_hole a b c d e w
  have h1 := fun w => i_row a w
  have h2 := fun w => i_in b 1 900 w
  have h3 := fun w => i_in c 1 128 w
  have h4 := fun w => i_in d 0 99460728 w
  have h5 := fun w => i_in e 0 2 w
  unfold isOk
  generalize isHole a b c d e = hh at *
  generalize inB a 8 63 = b1 at *
  generalize inB b 1 900 = b2 at *
  generalize inB c 1 128 = b3 at *
  generalize inB d 0 99460728 = b4 at *
  generalize inB e 0 2 = b5 at *
  cases hh with
  | true =>
    go_enter Tryd.func72, Tryd.ntmps72
    go_wp2_with (first | (go_at_call 73; refine (hM _).mono ?_; rintro r w' ⟨rfl, rfl⟩) | (go_at_call 89; refine (h1 _).mono ?_; rintro r w' ⟨rfl, rfl⟩) | (go_at_call 38; (with_reducible refine (h2 _).mono ?_); rintro r w' ⟨rfl, rfl⟩) | (go_at_call 38; (with_reducible refine (h3 _).mono ?_); rintro r w' ⟨rfl, rfl⟩) | (go_at_call 38; (with_reducible refine (h4 _).mono ?_); rintro r w' ⟨rfl, rfl⟩) | (go_at_call 38; (with_reducible refine (h5 _).mono ?_); rintro r w' ⟨rfl, rfl⟩))
    go_ret
    exact ⟨rfl, rfl⟩
  | false =>
    cases b1 with
    | false =>
      go_enter Tryd.func72, Tryd.ntmps72
      go_wp2_with (first | (go_at_call 73; refine (hM _).mono ?_; rintro r w' ⟨rfl, rfl⟩) | (go_at_call 89; refine (h1 _).mono ?_; rintro r w' ⟨rfl, rfl⟩) | (go_at_call 38; (with_reducible refine (h2 _).mono ?_); rintro r w' ⟨rfl, rfl⟩) | (go_at_call 38; (with_reducible refine (h3 _).mono ?_); rintro r w' ⟨rfl, rfl⟩) | (go_at_call 38; (with_reducible refine (h4 _).mono ?_); rintro r w' ⟨rfl, rfl⟩) | (go_at_call 38; (with_reducible refine (h5 _).mono ?_); rintro r w' ⟨rfl, rfl⟩))
      go_ret
      exact ⟨rfl, rfl⟩
    | true =>
      cases b2 with
      | false =>
        go_enter Tryd.func72, Tryd.ntmps72
        go_wp2_with (first | (go_at_call 73; refine (hM _).mono ?_; rintro r w' ⟨rfl, rfl⟩) | (go_at_call 89; refine (h1 _).mono ?_; rintro r w' ⟨rfl, rfl⟩) | (go_at_call 38; (with_reducible refine (h2 _).mono ?_); rintro r w' ⟨rfl, rfl⟩) | (go_at_call 38; (with_reducible refine (h3 _).mono ?_); rintro r w' ⟨rfl, rfl⟩) | (go_at_call 38; (with_reducible refine (h4 _).mono ?_); rintro r w' ⟨rfl, rfl⟩) | (go_at_call 38; (with_reducible refine (h5 _).mono ?_); rintro r w' ⟨rfl, rfl⟩))
        go_ret
        exact ⟨rfl, rfl⟩
      | true =>
        cases b3 with
        | false =>
          go_enter Tryd.func72, Tryd.ntmps72
          go_wp2_with (first | (go_at_call 73; refine (hM _).mono ?_; rintro r w' ⟨rfl, rfl⟩) | (go_at_call 89; refine (h1 _).mono ?_; rintro r w' ⟨rfl, rfl⟩) | (go_at_call 38; (with_reducible refine (h2 _).mono ?_); rintro r w' ⟨rfl, rfl⟩) | (go_at_call 38; (with_reducible refine (h3 _).mono ?_); rintro r w' ⟨rfl, rfl⟩) | (go_at_call 38; (with_reducible refine (h4 _).mono ?_); rintro r w' ⟨rfl, rfl⟩) | (go_at_call 38; (with_reducible refine (h5 _).mono ?_); rintro r w' ⟨rfl, rfl⟩))
          go_ret
          exact ⟨rfl, rfl⟩
        | true =>
          cases b4 with
          | false =>
            go_enter Tryd.func72, Tryd.ntmps72
            go_wp2_with (first | (go_at_call 73; refine (hM _).mono ?_; rintro r w' ⟨rfl, rfl⟩) | (go_at_call 89; refine (h1 _).mono ?_; rintro r w' ⟨rfl, rfl⟩) | (go_at_call 38; (with_reducible refine (h2 _).mono ?_); rintro r w' ⟨rfl, rfl⟩) | (go_at_call 38; (with_reducible refine (h3 _).mono ?_); rintro r w' ⟨rfl, rfl⟩) | (go_at_call 38; (with_reducible refine (h4 _).mono ?_); rintro r w' ⟨rfl, rfl⟩) | (go_at_call 38; (with_reducible refine (h5 _).mono ?_); rintro r w' ⟨rfl, rfl⟩))
            go_ret
            exact ⟨rfl, rfl⟩
          | true =>
            cases b5 with
            | false =>
              go_enter Tryd.func72, Tryd.ntmps72
              go_wp2_with (first | (go_at_call 73; refine (hM _).mono ?_; rintro r w' ⟨rfl, rfl⟩) | (go_at_call 89; refine (h1 _).mono ?_; rintro r w' ⟨rfl, rfl⟩) | (go_at_call 38; (with_reducible refine (h2 _).mono ?_); rintro r w' ⟨rfl, rfl⟩) | (go_at_call 38; (with_reducible refine (h3 _).mono ?_); rintro r w' ⟨rfl, rfl⟩) | (go_at_call 38; (with_reducible refine (h4 _).mono ?_); rintro r w' ⟨rfl, rfl⟩) | (go_at_call 38; (with_reducible refine (h5 _).mono ?_); rintro r w' ⟨rfl, rfl⟩))
              go_ret
              exact ⟨rfl, rfl⟩
            | true =>
              go_enter Tryd.func72, Tryd.ntmps72
              go_wp2_with (first | (go_at_call 73; refine (hM _).mono ?_; rintro r w' ⟨rfl, rfl⟩) | (go_at_call 89; refine (h1 _).mono ?_; rintro r w' ⟨rfl, rfl⟩) | (go_at_call 38; (with_reducible refine (h2 _).mono ?_); rintro r w' ⟨rfl, rfl⟩) | (go_at_call 38; (with_reducible refine (h3 _).mono ?_); rintro r w' ⟨rfl, rfl⟩) | (go_at_call 38; (with_reducible refine (h4 _).mono ?_); rintro r w' ⟨rfl, rfl⟩) | (go_at_call 38; (with_reducible refine (h5 _).mono ?_); rintro r w' ⟨rfl, rfl⟩))
              go_ret
              exact ⟨rfl, rfl⟩

set_option maxHeartbeats 2000000 in
theorem spec_pok (a b c d e : Int) (w : World) : Calls Tryd.prog 43 #[.agg #[.int .i64 a, .int .i64 b, .int .i64 c, .int .i64 d, .int .i64 e]] w fun r w' => r = .returned (.bool (isOk a b c d e)) ∧ w' = (w.alloc (.cells #[.int .i64 a, .int .i64 b, .int .i64 c, .int .i64 d, .int .i64 e] 29)).alloc (.cells #[.int .i64 a, .int .i64 b, .int .i64 c, .int .i64 d, .int .i64 e] 29) := by
  have hM := fun w => spec_hole a b c d e w
  have h1 := fun w => s_row a w
  have h2 := fun w => s_in b 1 900 w
  have h3 := fun w => s_in c 1 128 w
  have h4 := fun w => s_in d 0 99460728 w
  have h5 := fun w => s_in e 0 2 w
  unfold isOk
  generalize isHole a b c d e = hh at *
  generalize inB a 8 63 = b1 at *
  generalize inB b 1 900 = b2 at *
  generalize inB c 1 128 = b3 at *
  generalize inB d 0 99460728 = b4 at *
  generalize inB e 0 2 = b5 at *
  cases hh with
  | true =>
    go_enter Tryd.func43, Tryd.ntmps43
    go_wp2_with (first | (go_at_call 44; refine (hM _).mono ?_; rintro r w' ⟨rfl, rfl⟩) | (go_at_call 70; refine (h1 _).mono ?_; rintro r w' ⟨rfl, rfl⟩) | (go_at_call 40; (with_reducible refine (h2 _).mono ?_); rintro r w' ⟨rfl, rfl⟩) | (go_at_call 40; (with_reducible refine (h3 _).mono ?_); rintro r w' ⟨rfl, rfl⟩) | (go_at_call 40; (with_reducible refine (h4 _).mono ?_); rintro r w' ⟨rfl, rfl⟩) | (go_at_call 40; (with_reducible refine (h5 _).mono ?_); rintro r w' ⟨rfl, rfl⟩))
    go_ret
    exact ⟨rfl, rfl⟩
  | false =>
    cases b1 with
    | false =>
      go_enter Tryd.func43, Tryd.ntmps43
      go_wp2_with (first | (go_at_call 44; refine (hM _).mono ?_; rintro r w' ⟨rfl, rfl⟩) | (go_at_call 70; refine (h1 _).mono ?_; rintro r w' ⟨rfl, rfl⟩) | (go_at_call 40; (with_reducible refine (h2 _).mono ?_); rintro r w' ⟨rfl, rfl⟩) | (go_at_call 40; (with_reducible refine (h3 _).mono ?_); rintro r w' ⟨rfl, rfl⟩) | (go_at_call 40; (with_reducible refine (h4 _).mono ?_); rintro r w' ⟨rfl, rfl⟩) | (go_at_call 40; (with_reducible refine (h5 _).mono ?_); rintro r w' ⟨rfl, rfl⟩))
      go_ret
      exact ⟨rfl, rfl⟩
    | true =>
      cases b2 with
      | false =>
        go_enter Tryd.func43, Tryd.ntmps43
        go_wp2_with (first | (go_at_call 44; refine (hM _).mono ?_; rintro r w' ⟨rfl, rfl⟩) | (go_at_call 70; refine (h1 _).mono ?_; rintro r w' ⟨rfl, rfl⟩) | (go_at_call 40; (with_reducible refine (h2 _).mono ?_); rintro r w' ⟨rfl, rfl⟩) | (go_at_call 40; (with_reducible refine (h3 _).mono ?_); rintro r w' ⟨rfl, rfl⟩) | (go_at_call 40; (with_reducible refine (h4 _).mono ?_); rintro r w' ⟨rfl, rfl⟩) | (go_at_call 40; (with_reducible refine (h5 _).mono ?_); rintro r w' ⟨rfl, rfl⟩))
        go_ret
        exact ⟨rfl, rfl⟩
      | true =>
        cases b3 with
        | false =>
          go_enter Tryd.func43, Tryd.ntmps43
          go_wp2_with (first | (go_at_call 44; refine (hM _).mono ?_; rintro r w' ⟨rfl, rfl⟩) | (go_at_call 70; refine (h1 _).mono ?_; rintro r w' ⟨rfl, rfl⟩) | (go_at_call 40; (with_reducible refine (h2 _).mono ?_); rintro r w' ⟨rfl, rfl⟩) | (go_at_call 40; (with_reducible refine (h3 _).mono ?_); rintro r w' ⟨rfl, rfl⟩) | (go_at_call 40; (with_reducible refine (h4 _).mono ?_); rintro r w' ⟨rfl, rfl⟩) | (go_at_call 40; (with_reducible refine (h5 _).mono ?_); rintro r w' ⟨rfl, rfl⟩))
          go_ret
          exact ⟨rfl, rfl⟩
        | true =>
          cases b4 with
          | false =>
            go_enter Tryd.func43, Tryd.ntmps43
            go_wp2_with (first | (go_at_call 44; refine (hM _).mono ?_; rintro r w' ⟨rfl, rfl⟩) | (go_at_call 70; refine (h1 _).mono ?_; rintro r w' ⟨rfl, rfl⟩) | (go_at_call 40; (with_reducible refine (h2 _).mono ?_); rintro r w' ⟨rfl, rfl⟩) | (go_at_call 40; (with_reducible refine (h3 _).mono ?_); rintro r w' ⟨rfl, rfl⟩) | (go_at_call 40; (with_reducible refine (h4 _).mono ?_); rintro r w' ⟨rfl, rfl⟩) | (go_at_call 40; (with_reducible refine (h5 _).mono ?_); rintro r w' ⟨rfl, rfl⟩))
            go_ret
            exact ⟨rfl, rfl⟩
          | true =>
            cases b5 with
            | false =>
              go_enter Tryd.func43, Tryd.ntmps43
              go_wp2_with (first | (go_at_call 44; refine (hM _).mono ?_; rintro r w' ⟨rfl, rfl⟩) | (go_at_call 70; refine (h1 _).mono ?_; rintro r w' ⟨rfl, rfl⟩) | (go_at_call 40; (with_reducible refine (h2 _).mono ?_); rintro r w' ⟨rfl, rfl⟩) | (go_at_call 40; (with_reducible refine (h3 _).mono ?_); rintro r w' ⟨rfl, rfl⟩) | (go_at_call 40; (with_reducible refine (h4 _).mono ?_); rintro r w' ⟨rfl, rfl⟩) | (go_at_call 40; (with_reducible refine (h5 _).mono ?_); rintro r w' ⟨rfl, rfl⟩))
              go_ret
              exact ⟨rfl, rfl⟩
            | true =>
              go_enter Tryd.func43, Tryd.ntmps43
              go_wp2_with (first | (go_at_call 44; refine (hM _).mono ?_; rintro r w' ⟨rfl, rfl⟩) | (go_at_call 70; refine (h1 _).mono ?_; rintro r w' ⟨rfl, rfl⟩) | (go_at_call 40; (with_reducible refine (h2 _).mono ?_); rintro r w' ⟨rfl, rfl⟩) | (go_at_call 40; (with_reducible refine (h3 _).mono ?_); rintro r w' ⟨rfl, rfl⟩) | (go_at_call 40; (with_reducible refine (h4 _).mono ?_); rintro r w' ⟨rfl, rfl⟩) | (go_at_call 40; (with_reducible refine (h5 _).mono ?_); rintro r w' ⟨rfl, rfl⟩))
              go_ret
              exact ⟨rfl, rfl⟩

theorem to_ptr (a b c d e : Int) (w : World) : Calls Tryd.prog 45 #[.agg #[.int .i64 a, .int .i64 b, .int .i64 c, .int .i64 d, .int .i64 e]] w fun r w' => r = .returned (.agg #[.int .i64 a, .int .i64 b, .int .i64 c, .int .i64 d, .int .i64 e]) ∧ w' = ((w.alloc (.cells #[.int .i64 a, .int .i64 b, .int .i64 c, .int .i64 d, .int .i64 e] 23)).alloc (.cells #[.int .i64 a, .int .i64 b, .int .i64 c, .int .i64 d, .int .i64 e] 29)).alloc (.cells #[.int .i64 a, .int .i64 b, .int .i64 c, .int .i64 d, .int .i64 e] 29) := by
  go_enter Tryd.func45, Tryd.ntmps45
  go_wp2
  refine bodyPost_ret (v := .agg #[.int .i64 a, .int .i64 b, .int .i64 c, .int .i64 d, .int .i64 e]) (by simp [results, Tryd.f45, go_sem]) rfl ⟨rfl, rfl⟩

end Go.Proofs.YtehmaacbmkfedaaDoor
