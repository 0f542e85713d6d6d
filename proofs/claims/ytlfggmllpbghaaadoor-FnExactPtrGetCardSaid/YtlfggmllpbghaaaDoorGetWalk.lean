/-
  FnExactPtrGet, its walk: both ways of reading a pointer agree.
-/
import Derived.Test.YtlfggmllpbghaaaDoorGetIm
namespace Go.Proofs.YtlfggmllpbghaaaDoor
open Go.RowKit

set_option maxRecDepth 100000 in
set_option maxHeartbeats 2000000 in
theorem walk_epget (s : ByteArray) (w : World) (hE : Env w) : Calls Tryd.prog 11 #[.string s] w fun r w' => r = .returned (.bool true) ∧ Below w.heap.size w w' := by
  by_cases hb : (1048576 : Int) < (s.size : Int)
  · go_enter Tryd.func11, Tryd.ntmps11
    go_wp2
    go_ret
    exact ⟨rfl, Below.refl _ _⟩
  · have hS := spec_pget s w (by omega)
    have hI := fun W (h : Below w.heap.size w W) => impl_pget s W (by omega) (hE.at h)
    obtain ⟨⟨⟨a, b, c, d, e⟩, o⟩, hq⟩ : ∃ q, q = ptrG s := ⟨_, rfl⟩
    rw [← hq] at hS hI
    have hS2 : Calls Tryd.prog 25 #[.string s] w fun e' w' => e' = .returned (.tuple #[.agg #[.int .i64 a, .int .i64 b, .int .i64 c, .int .i64 d, .int .i64 e], .bool o]) ∧ Below w.heap.size w w' := hS
    have hI2 : ∀ W, Below w.heap.size w W → Calls Tryd.prog 23 #[.string s] W fun e' w' => e' = .returned (.tuple #[.agg #[.int .i64 a, .int .i64 b, .int .i64 c, .int .i64 d, .int .i64 e], .bool o]) ∧ Below W.heap.size W w' := hI
    have hoo : (o != o) = false := by cases o <;> rfl
    clear hS hI hE hq
    go_enter Tryd.func11, Tryd.ntmps11
    go_wp2_with (first | (go_at_call 25; refine hS2.mono ?_; rintro r w1 ⟨rfl, hb1⟩; have H1 := HP.new w1 a b c d e 24; have B1 := bel_then hb1 H1.2.2.2.2.2.2) | (go_at_call 23; refine (hI2 _ B1).mono ?_; rintro r w2 ⟨rfl, hb2⟩; have H2 := (H1.next hb2).more (.cells #[.int .i64 a, .int .i64 b, .int .i64 c, .int .i64 d, .int .i64 e] 24); obtain ⟨y0, y1, y2, y3, y4, yl, yb⟩ := id H2) | (go_at_call 34; refine (eq_ptr _ _ _ _ _ _).mono ?_; rintro r w3 ⟨rfl, rfl⟩))
    trace_state
    go_ret
    exact ⟨rfl, bel_new (bel_new (bel_then hb1 yb) _) _⟩

end Go.Proofs.YtlfggmllpbghaaaDoor
