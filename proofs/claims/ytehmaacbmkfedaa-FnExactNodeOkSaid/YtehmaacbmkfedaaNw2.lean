/-
  FnExactNodeOk, its walk.
-/
import Derived.Test.YtehmaacbmkfedaaNok
namespace Go.Proofs.Ytehmaacbmkfedaa
open Go.RowKit

theorem i_nodeOk (kind links size a b c d e dep many : Int) (w : World) : Calls Try.prog 11 #[.agg #[.int .i64 kind, .int .i64 links, .int .i64 size, .int .i64 a, .int .i64 b, .int .i64 c, .int .i64 d, .int .i64 e, .int .i64 dep, .int .i64 many]] w fun r w' => r = .returned (.bool (nodeOk ⟨kind, links, size, ⟨a, b, c, d, e⟩, dep, many⟩)) ∧ Below w.heap.size w w' := by
  have hI := fun w => i_nodeok kind links size a b c d e dep many w
  generalize nodeOk ⟨kind, links, size, ⟨a, b, c, d, e⟩, dep, many⟩ = B at hI
  go_enter Try.func11, Try.ntmps11
  go_wp2_with (go_at_call 24; refine (hI _).mono ?_; rintro r w2 ⟨rfl, hb2⟩)
  go_ret
  exact ⟨rfl, bel_then (bel_new (Below.refl _ _) _) hb2⟩
theorem w_nodeok (kind links size a b c d e dep many : Int) (w : World) : Calls Try.prog 4 #[.agg #[.int .i64 kind, .int .i64 links, .int .i64 size, .int .i64 a, .int .i64 b, .int .i64 c, .int .i64 d, .int .i64 e, .int .i64 dep, .int .i64 many]] w fun e w' => e = .returned (.bool true) ∧ Below w.heap.size w w' := by
  have hS := fun w => s_nodeok kind links size a b c d e dep many w
  have hI := fun w => i_nodeOk kind links size a b c d e dep many w
  have hT := fun w => to_node kind links size a b c d e dep many w
  generalize nodeOk ⟨kind, links, size, ⟨a, b, c, d, e⟩, dep, many⟩ = B at hS hI
  have n0 := KN.new w kind links size a b c d e dep many 29
  go_enter Try.func4, Try.ntmps4
  go_upto_region 1 with fail
  generalize hW0 : w.alloc (.cells #[.int .i64 kind, .int .i64 links, .int .i64 size, .int .i64 a, .int .i64 b, .int .i64 c, .int .i64 d, .int .i64 e, .int .i64 dep, .int .i64 many] 29) = W0 at n0
  clear hW0
  obtain ⟨y0, y1, y2, y3, y4, y5, y6, y7, y8, y9, yg, yb⟩ := id n0
  go_wp2_with (first | (go_at_call 10; refine (hT _).mono ?_; rintro r w1 ⟨rfl, hb1⟩; have n0 := n0.next hb1; obtain ⟨y0, y1, y2, y3, y4, y5, y6, y7, y8, y9, yg, yb⟩ := id n0) | (go_at_call 9; refine (hS _).mono ?_; rintro r w2 ⟨rfl, hb2⟩; have n0 := n0.next hb2; obtain ⟨y0, y1, y2, y3, y4, y5, y6, y7, y8, y9, yg, yb⟩ := id n0) | (go_at_call 11; refine (hI _).mono ?_; rintro r w3 ⟨rfl, hb3⟩; have n0 := n0.next hb3))
  go_ret
  exact ⟨rfl, n0.bel⟩
end Go.Proofs.Ytehmaacbmkfedaa
