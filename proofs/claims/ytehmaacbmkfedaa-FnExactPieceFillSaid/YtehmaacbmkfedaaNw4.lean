/-
  FnExactPieceFill, its walk.
-/
import Derived.Test.YtehmaacbmkfedaaNz
namespace Go.Proofs.Ytehmaacbmkfedaa
open Go.RowKit

theorem w_fill (s : ByteArray) (hs : s.size ≤ maxLen) (n : Int) (w : World) : Calls Try.prog 5 #[.string s, .int .i64 n] w fun e w' => e = .returned (.bool true) ∧ Below w.heap.size w w' := by
  have hS := fun w => s_fill s n w hs
  have hI := fun w => i_fill s n w hs
  obtain ⟨r, hr⟩ : ∃ r, r = fillB s n := ⟨_, rfl⟩
  rw [← hr] at hS hI
  clear hr
  obtain ⟨t, o⟩ := r
  have ht : (t.toList == t.toList) = true := by simp
  unfold maxLen at hs
  cases o with
  | true =>
    go_enter Try.func5, Try.ntmps5
    by_cases h : (1048576 : Int) < (s.size : Int)
    · go_wp2_with fail
      go_ret
      exact ⟨rfl, Below.refl _ _⟩
    · go_wp2_with (first | (go_at_call 12; refine (hS _).mono ?_; rintro r w1 ⟨rfl, hb1⟩) | (go_at_call 13; refine (hI _).mono ?_; rintro r w2 ⟨rfl, hb2⟩))
      go_ret
      exact ⟨rfl, bel_then hb1 hb2⟩
  | false =>
    go_enter Try.func5, Try.ntmps5
    by_cases h : (1048576 : Int) < (s.size : Int)
    · go_wp2_with fail
      go_ret
      exact ⟨rfl, Below.refl _ _⟩
    · go_wp2_with (first | (go_at_call 12; refine (hS _).mono ?_; rintro r w1 ⟨rfl, hb1⟩) | (go_at_call 13; refine (hI _).mono ?_; rintro r w2 ⟨rfl, hb2⟩))
      go_ret
      exact ⟨rfl, bel_then hb1 hb2⟩
end Go.Proofs.Ytehmaacbmkfedaa
