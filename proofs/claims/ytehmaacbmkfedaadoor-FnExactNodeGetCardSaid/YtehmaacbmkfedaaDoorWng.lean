/-
  FnExactNodeGet, its walk.
-/
import Derived.Test.YtehmaacbmkfedaaDoorNgn
namespace Go.Proofs.YtehmaacbmkfedaaDoor
open Go.RowKit
set_option linter.unusedVariables false

theorem eq_ptr (a b c d e : Int) (w : World) : Calls Tryd.prog 57 #[.agg #[.int .i64 a, .int .i64 b, .int .i64 c, .int .i64 d, .int .i64 e], .agg #[.int .i64 a, .int .i64 b, .int .i64 c, .int .i64 d, .int .i64 e]] w fun r w' => r = .returned (.bool true) ∧ w' = (w.alloc (.cells #[.int .i64 a, .int .i64 b, .int .i64 c, .int .i64 d, .int .i64 e] 29)).alloc (.cells #[.int .i64 a, .int .i64 b, .int .i64 c, .int .i64 d, .int .i64 e] 29) := by
  go_enter Tryd.func57, Tryd.ntmps57
  go_wp2
  go_ret
  exact ⟨rfl, rfl⟩

set_option maxRecDepth 100000 in
set_option maxHeartbeats 2000000 in
theorem eq_tree (a b c d e dep many : Int) (w : World) : Calls Tryd.prog 31 #[.agg #[.int .i64 a, .int .i64 b, .int .i64 c, .int .i64 d, .int .i64 e, .int .i64 dep, .int .i64 many], .agg #[.int .i64 a, .int .i64 b, .int .i64 c, .int .i64 d, .int .i64 e, .int .i64 dep, .int .i64 many]] w fun r w' => r = .returned (.bool true) ∧ Below w.heap.size w w' := by
  go_enter Tryd.func31, Tryd.ntmps31
  go_wp2_with (go_at_call 57; refine (eq_ptr _ _ _ _ _ _).mono ?_; rintro r w2 ⟨rfl, rfl⟩)
  go_ret
  exact ⟨rfl, by repeat' (first | exact Below.refl _ _ | refine bel_new ?_ _)⟩
set_option maxRecDepth 100000 in
set_option maxHeartbeats 2000000 in
theorem eq_node (kind links size a b c d e dep many : Int) (w : World) : Calls Tryd.prog 13 #[.agg #[.int .i64 kind, .int .i64 links, .int .i64 size, .int .i64 a, .int .i64 b, .int .i64 c, .int .i64 d, .int .i64 e, .int .i64 dep, .int .i64 many], .agg #[.int .i64 kind, .int .i64 links, .int .i64 size, .int .i64 a, .int .i64 b, .int .i64 c, .int .i64 d, .int .i64 e, .int .i64 dep, .int .i64 many]] w fun r w' => r = .returned (.bool true) ∧ Below w.heap.size w w' := by
  go_enter Tryd.func13, Tryd.ntmps13
  go_wp2_with (go_at_call 31; refine (eq_tree _ _ _ _ _ _ _ _).mono ?_; rintro r w2 ⟨rfl, hb2⟩)
  go_ret
  exact ⟨rfl, bel_then (bel_new (bel_new (Below.refl _ _) _) _) hb2⟩

theorem w_nodeget (s : ByteArray) (hs : s.size ≤ maxLen) (w : World) (hE : Env w) : Calls Tryd.prog 4 #[.string s] w fun e w' => e = .returned (.bool true) ∧ Below w.heap.size w w' := by
  unfold maxLen at hs
  by_cases h : (1048576 : Int) < (s.size : Int)
  · go_enter Tryd.func4, Tryd.ntmps4
    go_wp2_with fail
    go_ret
    exact ⟨rfl, Below.refl _ _⟩
  · have hS9 := fun W => s_nodeget s W (by omega)
    have hI9 := fun W (hb : Below w.heap.size w W) => i_nodeget s W (by omega) (hE.at hb)
    obtain ⟨n, o, hS, hI⟩ : ∃ (n : Nd) (o : Bool), (∀ W, Calls Tryd.prog 11 #[.string s] W fun e w' => e = .returned (.tuple #[n.val, .bool o]) ∧ Below W.heap.size W w') ∧ (∀ W, Below w.heap.size w W → Calls Tryd.prog 12 #[.string s] W fun e w' => e = .returned (.tuple #[n.val, .bool o]) ∧ Below W.heap.size W w') := by
      by_cases hex : ∃ n, NodeOf s n
      · obtain ⟨n, hn⟩ := hex
        exact ⟨n, true, fun W => (hS9 W).mono fun e w' ⟨hb, h⟩ => h.elim (fun ⟨m, hm, he⟩ => by obtain rfl := nodeOf_one hn hm; exact ⟨he, hb⟩) (fun ⟨hno, _⟩ => absurd hn (hno n)), fun W hW => (hI9 W hW).mono fun e w' ⟨hb, h⟩ => h.elim (fun ⟨m, hm, he⟩ => by obtain rfl := nodeOf_one hn hm; exact ⟨he, hb⟩) (fun ⟨hno, _⟩ => absurd hn (hno n))⟩
      · exact ⟨Nd.zero, false, fun W => (hS9 W).mono fun e w' ⟨hb, h⟩ => h.elim (fun ⟨m, hm, _⟩ => absurd ⟨m, hm⟩ hex) (fun ⟨_, he⟩ => ⟨he, hb⟩), fun W hW => (hI9 W hW).mono fun e w' ⟨hb, h⟩ => h.elim (fun ⟨m, hm, _⟩ => absurd ⟨m, hm⟩ hex) (fun ⟨_, he⟩ => ⟨he, hb⟩)⟩
    clear hS9 hI9 hE
    obtain ⟨kind, links, size, ⟨a, b, c, d, e⟩, dep, many⟩ := n
    have hS0 : ∀ W, Calls Tryd.prog 11 #[.string s] W fun e' w' => e' = .returned (.tuple #[.agg #[.int .i64 kind, .int .i64 links, .int .i64 size, .int .i64 a, .int .i64 b, .int .i64 c, .int .i64 d, .int .i64 e, .int .i64 dep, .int .i64 many], .bool o]) ∧ Below W.heap.size W w' := hS
    have hI0 : ∀ W, Below w.heap.size w W → Calls Tryd.prog 12 #[.string s] W fun e' w' => e' = .returned (.tuple #[.agg #[.int .i64 kind, .int .i64 links, .int .i64 size, .int .i64 a, .int .i64 b, .int .i64 c, .int .i64 d, .int .i64 e, .int .i64 dep, .int .i64 many], .bool o]) ∧ Below W.heap.size W w' := hI
    have hQ := fun w => eq_node kind links size a b c d e dep many w
    clear hS hI
    go_enter Tryd.func4, Tryd.ntmps4
    go_upto_region 4 with (go_at_call 11; refine (hS0 _).mono ?_; rintro r w1 ⟨rfl, hb1⟩)
    have n1 := NB.new w1 kind links size a b c d e dep many 33
    have B1 : Below w.heap.size w (w1.alloc (.cells #[.int .i64 kind, .int .i64 links, .int .i64 size, .int .i64 a, .int .i64 b, .int .i64 c, .int .i64 d, .int .i64 e, .int .i64 dep, .int .i64 many] 33)) := bel_new hb1 _
    generalize hG : w1.heap.size = g at n1
    generalize hW : w1.alloc (.cells #[.int .i64 kind, .int .i64 links, .int .i64 size, .int .i64 a, .int .i64 b, .int .i64 c, .int .i64 d, .int .i64 e, .int .i64 dep, .int .i64 many] 33) = W1 at n1 B1
    clear hW hG hb1
    have hI1 := hI0 W1 B1
    clear hI0 hS0
    go_upto_region 5 with (go_at_call 12; refine hI1.mono ?_; rintro r w2 ⟨rfl, hb2⟩)
    have n2 := n1.below hb2
    have B2 := B1.trans (hb2.mono B1.size)
    have n3 := n2.below (bel_fresh (o := .cells #[.int .i64 kind, .int .i64 links, .int .i64 size, .int .i64 a, .int .i64 b, .int .i64 c, .int .i64 d, .int .i64 e, .int .i64 dep, .int .i64 many] 33) w2)
    have m3 := NB.new w2 kind links size a b c d e dep many 33
    have B3 : Below w.heap.size w (w2.alloc (.cells #[.int .i64 kind, .int .i64 links, .int .i64 size, .int .i64 a, .int .i64 b, .int .i64 c, .int .i64 d, .int .i64 e, .int .i64 dep, .int .i64 many] 33)) := bel_new B2 _
    generalize hG : w2.heap.size = g3 at m3
    generalize hW : w2.alloc (.cells #[.int .i64 kind, .int .i64 links, .int .i64 size, .int .i64 a, .int .i64 b, .int .i64 c, .int .i64 d, .int .i64 e, .int .i64 dep, .int .i64 many] 33) = W3 at n3 m3 B3
    clear hW hG hb2 hI1 n1 n2 B1 B2
    obtain ⟨y0, y1, y2, y3, y4, y5, y6, y7, y8, y9⟩ := n3.cells
    obtain ⟨z0, z1, z2, z3, z4, z5, z6, z7, z8, z9⟩ := m3.cells
    cases o with
    | true =>
      go_wp2_with (go_at_call 13; refine (hQ _).mono ?_; rintro r w4 ⟨rfl, hb4⟩)
      go_ret
      exact ⟨rfl, bel_then B3 hb4⟩
    | false =>
      go_wp2_with (go_at_call 13; refine (hQ _).mono ?_; rintro r w4 ⟨rfl, hb4⟩)
      go_ret
      exact ⟨rfl, bel_then B3 hb4⟩
end Go.Proofs.YtehmaacbmkfedaaDoor
