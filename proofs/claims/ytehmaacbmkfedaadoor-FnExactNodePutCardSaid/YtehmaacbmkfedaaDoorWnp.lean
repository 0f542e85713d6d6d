/-
  FnExactNodePut, its walk.
-/
import Derived.Test.YtehmaacbmkfedaaDoorNpi
namespace Go.Proofs.YtehmaacbmkfedaaDoor
open Go.RowKit

theorem w_nodeput (kind links size a b c d e dep many : Int) (w : World) (hT : Tab w) : Calls Tryd.prog 3 #[.agg #[.int .i64 kind, .int .i64 links, .int .i64 size, .int .i64 a, .int .i64 b, .int .i64 c, .int .i64 d, .int .i64 e, .int .i64 dep, .int .i64 many]] w fun e w' => e = .returned (.bool true) ∧ Below w.heap.size w w' := by
  have hS := fun w => s_nodeput kind links size a b c d e dep many w
  have hI := fun W (hb : Below w.heap.size w W) => i_nodeput kind links size a b c d e dep many W (hT.at hb)
  have hO := fun w => to_node kind links size a b c d e dep many w
  generalize nodeT ⟨kind, links, size, ⟨a, b, c, d, e⟩, dep, many⟩ = B at hS hI
  have ht : (B.toList == B.toList) = true := by simp
  have n0 := KN.new w kind links size a b c d e dep many 27
  clear hT
  go_enter Tryd.func3, Tryd.ntmps3
  go_upto_region 1 with fail
  generalize hW0 : w.alloc (.cells #[.int .i64 kind, .int .i64 links, .int .i64 size, .int .i64 a, .int .i64 b, .int .i64 c, .int .i64 d, .int .i64 e, .int .i64 dep, .int .i64 many] 27) = W0 at n0
  clear hW0
  obtain ⟨y0, y1, y2, y3, y4, y5, y6, y7, y8, y9, yg, yb⟩ := id n0
  go_wp2_with (first | (go_at_call 9; refine (hO _).mono ?_; rintro r w1 ⟨rfl, hb1⟩; have n0 := n0.next hb1; obtain ⟨y0, y1, y2, y3, y4, y5, y6, y7, y8, y9, yg, yb⟩ := id n0) | (go_at_call 8; refine (hS _).mono ?_; rintro r w2 ⟨rfl, hb2⟩; have n0 := n0.next hb2; obtain ⟨y0, y1, y2, y3, y4, y5, y6, y7, y8, y9, yg, yb⟩ := id n0) | (go_at_call 10; refine (hI _ n0.bel).mono ?_; rintro r w3 ⟨rfl, hb3⟩; have n0 := n0.next hb3))
  go_ret
  exact ⟨rfl, n0.bel⟩
end Go.Proofs.YtehmaacbmkfedaaDoor
