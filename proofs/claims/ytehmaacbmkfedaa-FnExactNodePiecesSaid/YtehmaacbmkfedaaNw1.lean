/-
  FnExactNodePieces, its walk.
-/
import Derived.Test.YtehmaacbmkfedaaNpc
namespace Go.Proofs.Ytehmaacbmkfedaa
open Go.RowKit

theorem w_pieces (k s : Int) (w : World) : Calls Try.prog 3 #[.int .i64 k, .int .i64 s] w fun e w' => e = .returned (.bool true) ∧ Below w.heap.size w w' := by
  have hS := fun w => s_pieces k s w
  have hI := fun w => i_pieces k s w
  generalize pieces k s = P at hS hI
  go_enter Try.func3, Try.ntmps3
  go_wp2_with (first | (go_at_call 7; refine (hS _).mono ?_; rintro r w1 ⟨rfl, rfl⟩) | (go_at_call 8; refine (hI _).mono ?_; rintro r w2 ⟨rfl, hb2⟩))
  go_ret
  exact ⟨rfl, hb2⟩
end Go.Proofs.Ytehmaacbmkfedaa
