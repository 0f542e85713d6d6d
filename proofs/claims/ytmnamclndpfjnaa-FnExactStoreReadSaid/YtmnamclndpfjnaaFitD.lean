/-
  PtrFits, the model's, at the size.
-/
import Derived.Test.YtmnamclndpfjnaaFit
import Derived.Deep.RegionLaw
namespace Go.Proofs.Ytmnamclndpfjnaa
open Go.RowKit
set_option linter.unusedVariables false

set_option maxHeartbeats 6000000 in
theorem fits_d1 (a b c d e z : Int) (s : ByteArray) (w : World)
    (hO : ∀ w, Calls Try.prog 50 #[.agg #[.int .i64 a, .int .i64 b, .int .i64 c, .int .i64 d, .int .i64 e]] w fun r w' => r = .returned (.bool true) ∧ Below w.heap.size w w')
    (hM : ∀ w, Calls Try.prog 51 #[.agg #[.int .i64 a, .int .i64 b, .int .i64 c, .int .i64 d, .int .i64 e]] w fun r w' => r = .returned (.bool false) ∧ Below w.heap.size w w')
    (hS : ∀ w, Calls Try.prog 109 #[.string s] w fun r w' => r = .returned (.int .i64 z) ∧ Below w.heap.size w w')
    (hx : (c == (s.size : Int)) = true) (hxd : decide (c = (s.size : Int)) = true) (hy : (d == z) = false) (hyd : decide (d = z) = false) :
    Calls Try.prog 89 #[.agg #[.int .i64 a, .int .i64 b, .int .i64 c, .int .i64 d, .int .i64 e], .string s] w fun r w' => r = .returned (.bool (true && !false && true && false)) ∧ Below w.heap.size w w' := by
  have H3 := (HP.new w a b c d e 45).drew
  go_enter Try.func89, Try.ntmps89
  go_wp2_with fail
  first
    | go_region_with (first | (go_at_call 50; refine (hO _).mono ?_; rintro r w1 ⟨rfl, hb⟩; have hp := H3.next hb; obtain ⟨q0, q1, q2, q3, q4, ql, qb⟩ := id hp) | (go_at_call 51; refine (hM _).mono ?_; rintro r w1 ⟨rfl, hb⟩; have hp := hp.next hb; obtain ⟨q0, q1, q2, q3, q4, ql, qb⟩ := id hp) | (go_at_call 109; refine (hS _).mono ?_; rintro r w1 ⟨rfl, hb⟩; have hp := hp.next hb; obtain ⟨q0, q1, q2, q3, q4, ql, qb⟩ := id hp))
    | fail "region"
  all_goals go_wp2_with fail
  all_goals go_ret
  all_goals exact ⟨rfl, qb⟩

set_option maxHeartbeats 6000000 in
theorem fits_d2 (a b c d e z : Int) (s : ByteArray) (w : World)
    (hO : ∀ w, Calls Try.prog 50 #[.agg #[.int .i64 a, .int .i64 b, .int .i64 c, .int .i64 d, .int .i64 e]] w fun r w' => r = .returned (.bool true) ∧ Below w.heap.size w w')
    (hM : ∀ w, Calls Try.prog 51 #[.agg #[.int .i64 a, .int .i64 b, .int .i64 c, .int .i64 d, .int .i64 e]] w fun r w' => r = .returned (.bool false) ∧ Below w.heap.size w w')
    (hS : ∀ w, Calls Try.prog 109 #[.string s] w fun r w' => r = .returned (.int .i64 z) ∧ Below w.heap.size w w')
    (hx : (c == (s.size : Int)) = true) (hxd : decide (c = (s.size : Int)) = true) (hy : (d == z) = true) (hyd : decide (d = z) = true) :
    Calls Try.prog 89 #[.agg #[.int .i64 a, .int .i64 b, .int .i64 c, .int .i64 d, .int .i64 e], .string s] w fun r w' => r = .returned (.bool (true && !false && true && true)) ∧ Below w.heap.size w w' := by
  have H3 := (HP.new w a b c d e 45).drew
  go_enter Try.func89, Try.ntmps89
  go_wp2_with fail
  first
    | go_region_with (first | (go_at_call 50; refine (hO _).mono ?_; rintro r w1 ⟨rfl, hb⟩; have hp := H3.next hb; obtain ⟨q0, q1, q2, q3, q4, ql, qb⟩ := id hp) | (go_at_call 51; refine (hM _).mono ?_; rintro r w1 ⟨rfl, hb⟩; have hp := hp.next hb; obtain ⟨q0, q1, q2, q3, q4, ql, qb⟩ := id hp) | (go_at_call 109; refine (hS _).mono ?_; rintro r w1 ⟨rfl, hb⟩; have hp := hp.next hb; obtain ⟨q0, q1, q2, q3, q4, ql, qb⟩ := id hp))
    | fail "region"
  all_goals go_wp2_with fail
  all_goals go_ret
  all_goals exact ⟨rfl, qb⟩

end Go.Proofs.Ytmnamclndpfjnaa
