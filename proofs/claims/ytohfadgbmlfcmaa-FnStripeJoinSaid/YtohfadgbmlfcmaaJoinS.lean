/-
  StripeJoin of the model, at what is no call.
-/
import Derived.Test.YtohfadgbmlfcmaaJoinH
namespace Go.Proofs.Ytohfadgbmlfcmaa
open Go.RowKit

set_option maxRecDepth 100000 in
set_option maxHeartbeats 4000000 in
theorem spec_join_bad (A : Option Addr) (c : Nat) (ss : List ByteArray) (size lost : Int) (w : World) (hn : ss.length ≤ maxLen) (h : ¬ (ss.length = 3 ∧ (1 ≤ size ∧ size ≤ 128) ∧ (-1 ≤ lost ∧ lost ≤ 1))) :
    Calls Try.prog 15 #[.slice A ss.length c, .int .i64 size, .int .i64 lost] w (JoinPost ss size lost w) := by
  have hj := Lib.hid (joinD_no h)
  unfold maxLen at hn
  by_cases h1 : ss.length = 3
  · have hl1 : ((ss.length : Int) != 3) = false := by rw [h1]; rfl
    have hl2 : (ss.length != 3) = false := by rw [h1]; rfl
    by_cases h2 : 1 ≤ size ∧ size ≤ 128
    · have h3 : ¬ (-1 ≤ lost ∧ lost ≤ 1) := fun h3 => h ⟨h1, h2, h3⟩
      have e1 := inB_yes h2.1 h2.2
      have e2 := inB_no h3
      clear h h1 h2 h3
      go_enter Try.func15, Try.ntmps15
      go_wp2_with (first
        | (go_at_call 29; refine (in_any _ _ _ _).mono ?_; rintro r w1 ⟨rfl, rfl⟩))
      go_ret2
      exact JoinPost.no hj.out (Below.refl _ _)
    · have e1 := inB_no h2
      clear h h1 h2
      go_enter Try.func15, Try.ntmps15
      go_wp2_with (go_at_call 29; refine (in_any _ _ _ _).mono ?_; rintro r w1 ⟨rfl, rfl⟩)
      go_ret2
      exact JoinPost.no hj.out (Below.refl _ _)
  · have hl1 : ((ss.length : Int) != 3) = true := by simp; omega
    have hl2 : (ss.length != 3) = true := by simp; omega
    clear h h1
    go_enter Try.func15, Try.ntmps15
    go_wp2_with fail
    go_ret2
    exact JoinPost.no hj.out (Below.refl _ _)
end Go.Proofs.Ytohfadgbmlfcmaa
