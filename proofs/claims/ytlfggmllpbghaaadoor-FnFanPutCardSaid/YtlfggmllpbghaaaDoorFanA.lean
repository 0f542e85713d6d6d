/-
  Indirect blocks of the program: an array of four pointers: whether all are holes, whether it is valid, its text.
-/
import Derived.Test.YtlfggmllpbghaaaDoorPtr2
import Derived.Test.YtlfggmllpbghaaaDoorTextM
namespace Go.Proofs.YtlfggmllpbghaaaDoor
open Go.RowKit

theorem eq24_9 (a b c d e a' b' c' d' e' : Int) (w : World) :
    (Op.equalIn 9999 24 (.agg #[.int .i64 a, .int .i64 b, .int .i64 c, .int .i64 d, .int .i64 e]) (.agg #[.int .i64 a', .int .i64 b', .int .i64 c', .int .i64 d', .int .i64 e'])).run Tryd.prog w = .ok (same a b c d e a' b' c' d' e') w := by
  unfold same
  have u3 := Tryd.underlying3
  have a3 := Tryd.isAgg3
  have z3 := Tryd.sizeOf3
  have hS : Tryd.prog.underlying 24 = some (.struct (Tryd.prog.fieldsOf 24)) := by kernel_rfl
  have hp : Tryd.prog.stoodInHeld 24 = false := by kernel_rfl
  rw [show (9999 : Nat) = 9998 + 1 from rfl, run_equalIn_agg w 9998 24 _ _ hS hp]
  simp only [Program.fieldsOf, Tryd.underlying24]
  go_simp
  by_cases h1 : a = a' <;> by_cases h2 : b = b' <;> by_cases h3 : c = c' <;> by_cases h4 : d = d' <;> by_cases h5 : e = e' <;> simp [h1, h2, h3, h4, h5]

/-- Two arrays of four: element by element. -/
theorem run_equalIn_array4 {P : Program} (w : World) (d : Nat) (t e : TypeId) (n : Nat) (xs ys : Array Value) (r0 r1 r2 r3 : Bool) (ht : P.underlying t = some (.array 4 e)) (hn : ∀ w, (sizeOf e).run P w = .ok n w) (hg : ∀ w, (isAgg e).run P w = .ok true w)
    (h0 : (Op.equalIn d e (.agg (xs.extract (0 * n) (0 * n + n))) (.agg (ys.extract (0 * n) (0 * n + n)))).run P w = .ok r0 w)
    (h1 : (Op.equalIn d e (.agg (xs.extract (1 * n) (1 * n + n))) (.agg (ys.extract (1 * n) (1 * n + n)))).run P w = .ok r1 w)
    (h2 : (Op.equalIn d e (.agg (xs.extract (2 * n) (2 * n + n))) (.agg (ys.extract (2 * n) (2 * n + n)))).run P w = .ok r2 w)
    (h3 : (Op.equalIn d e (.agg (xs.extract (3 * n) (3 * n + n))) (.agg (ys.extract (3 * n) (3 * n + n)))).run P w = .ok r3 w) :
    (Op.equalIn (d + 1) t (.agg xs) (.agg ys)).run P w = .ok (r0 && r1 && r2 && r3) w := by
  simp only [Op.equalIn, Sem.run_bind, run_underlying ht, Result.andThen_ok, hn, Std.Legacy.Range.forIn_eq_forIn_range']
  rw [show List.range' ([:4] : Std.Legacy.Range).start ([:4] : Std.Legacy.Range).size ([:4] : Std.Legacy.Range).step = [0, 1, 2, 3] from rfl]
  simp only [List.forIn_cons, List.forIn_nil, Sem.run_bind, part, hg, hn, Result.andThen_ok, Sem.run_pure, if_true, h0, Sem.run_ite]
  cases r0 <;> cases r1 <;> cases r2 <;> cases r3 <;> simp only [Bool.false_eq_true, if_true, if_false, Bool.not_true, Bool.not_false, Sem.run_bind, hg, hn, Result.andThen_ok, Sem.run_pure, h1, h2, h3, Sem.run_ite] <;> rfl

theorem ext_one (x0 x1 x2 x3 x4 x5 x6 x7 x8 x9 y0 y1 y2 y3 y4 y5 y6 y7 y8 y9 : Value) :
    (#[x0, x1, x2, x3, x4, x5, x6, x7, x8, x9, y0, y1, y2, y3, y4, y5, y6, y7, y8, y9] : Array Value).extract (0 * 5) (0 * 5 + 5) = #[x0, x1, x2, x3, x4] ∧
    (#[x0, x1, x2, x3, x4, x5, x6, x7, x8, x9, y0, y1, y2, y3, y4, y5, y6, y7, y8, y9] : Array Value).extract (1 * 5) (1 * 5 + 5) = #[x5, x6, x7, x8, x9] ∧
    (#[x0, x1, x2, x3, x4, x5, x6, x7, x8, x9, y0, y1, y2, y3, y4, y5, y6, y7, y8, y9] : Array Value).extract (2 * 5) (2 * 5 + 5) = #[y0, y1, y2, y3, y4] ∧
    (#[x0, x1, x2, x3, x4, x5, x6, x7, x8, x9, y0, y1, y2, y3, y4, y5, y6, y7, y8, y9] : Array Value).extract (3 * 5) (3 * 5 + 5) = #[y5, y6, y7, y8, y9] := by
  refine ⟨?_, ?_, ?_, ?_⟩ <;> simp [List.extract_eq_take_drop]

@[go_sem] theorem eq67 (a0 b0 c0 d0 e0 a1 b1 c1 d1 e1 a2 b2 c2 d2 e2 a3 b3 c3 d3 e3 : Int) (w : World) :
    (Op.equalIn 10000 67 (.agg #[.int .i64 a0, .int .i64 b0, .int .i64 c0, .int .i64 d0, .int .i64 e0, .int .i64 a1, .int .i64 b1, .int .i64 c1, .int .i64 d1, .int .i64 e1, .int .i64 a2, .int .i64 b2, .int .i64 c2, .int .i64 d2, .int .i64 e2, .int .i64 a3, .int .i64 b3, .int .i64 c3, .int .i64 d3, .int .i64 e3]) (.agg #[.int .i64 0, .int .i64 0, .int .i64 0, .int .i64 0, .int .i64 0, .int .i64 0, .int .i64 0, .int .i64 0, .int .i64 0, .int .i64 0, .int .i64 0, .int .i64 0, .int .i64 0, .int .i64 0, .int .i64 0, .int .i64 0, .int .i64 0, .int .i64 0, .int .i64 0, .int .i64 0])).run Tryd.prog w = .ok (isHole a0 b0 c0 d0 e0 && isHole a1 b1 c1 d1 e1 && isHole a2 b2 c2 d2 e2 && isHole a3 b3 c3 d3 e3) w := by
  have h : ∀ a b c d e : Int, (Op.equalIn 9999 24 (.agg #[.int .i64 a, .int .i64 b, .int .i64 c, .int .i64 d, .int .i64 e]) (.agg #[.int .i64 0, .int .i64 0, .int .i64 0, .int .i64 0, .int .i64 0])).run Tryd.prog w = .ok (isHole a b c d e) w := fun a b c d e => eq24_9 a b c d e 0 0 0 0 0 w
  obtain ⟨x0, x1, x2, x3⟩ := ext_one (.int .i64 a0) (.int .i64 b0) (.int .i64 c0) (.int .i64 d0) (.int .i64 e0) (.int .i64 a1) (.int .i64 b1) (.int .i64 c1) (.int .i64 d1) (.int .i64 e1) (.int .i64 a2) (.int .i64 b2) (.int .i64 c2) (.int .i64 d2) (.int .i64 e2) (.int .i64 a3) (.int .i64 b3) (.int .i64 c3) (.int .i64 d3) (.int .i64 e3)
  obtain ⟨y0, y1, y2, y3⟩ := ext_one (.int .i64 0) (.int .i64 0) (.int .i64 0) (.int .i64 0) (.int .i64 0) (.int .i64 0) (.int .i64 0) (.int .i64 0) (.int .i64 0) (.int .i64 0) (.int .i64 0) (.int .i64 0) (.int .i64 0) (.int .i64 0) (.int .i64 0) (.int .i64 0) (.int .i64 0) (.int .i64 0) (.int .i64 0) (.int .i64 0)
  rw [show (10000 : Nat) = 9999 + 1 from rfl]
  refine run_equalIn_array4 w 9999 67 24 5 _ _ _ _ _ _ Tryd.underlying67 Tryd.sizeOf24 Tryd.isAgg24 ?_ ?_ ?_ ?_
  · rw [x0, y0]; exact h a0 b0 c0 d0 e0
  · rw [x1, y1]; exact h a1 b1 c1 d1 e1
  · rw [x2, y2]; exact h a2 b2 c2 d2 e2
  · rw [x3, y3]; exact h a3 b3 c3 d3 e3

theorem info67 (a0 b0 c0 d0 e0 a1 b1 c1 d1 e1 a2 b2 c2 d2 e2 a3 b3 c3 d3 e3 : Int) : (Tryd.prog.info? 67).map (·.size) = some (#[.int .i64 a0, .int .i64 b0, .int .i64 c0, .int .i64 d0, .int .i64 e0, .int .i64 a1, .int .i64 b1, .int .i64 c1, .int .i64 d1, .int .i64 e1, .int .i64 a2, .int .i64 b2, .int .i64 c2, .int .i64 d2, .int .i64 e2, .int .i64 a3, .int .i64 b3, .int .i64 c3, .int .i64 d3, .int .i64 e3] : Array Value).size := by kernel_rfl
theorem m_empty (a0 b0 c0 d0 e0 a1 b1 c1 d1 e1 a2 b2 c2 d2 e2 a3 b3 c3 d3 e3 : Int) (w : World) : Calls Tryd.prog 57 #[.agg #[.int .i64 a0, .int .i64 b0, .int .i64 c0, .int .i64 d0, .int .i64 e0, .int .i64 a1, .int .i64 b1, .int .i64 c1, .int .i64 d1, .int .i64 e1, .int .i64 a2, .int .i64 b2, .int .i64 c2, .int .i64 d2, .int .i64 e2, .int .i64 a3, .int .i64 b3, .int .i64 c3, .int .i64 d3, .int .i64 e3]] w fun r w' => r = .returned (.bool (isHole a0 b0 c0 d0 e0 && isHole a1 b1 c1 d1 e1 && isHole a2 b2 c2 d2 e2 && isHole a3 b3 c3 d3 e3)) ∧ Below w.heap.size w w' := by
  have hg := heap_alloc_new w (.cells #[.int .i64 a0, .int .i64 b0, .int .i64 c0, .int .i64 d0, .int .i64 e0, .int .i64 a1, .int .i64 b1, .int .i64 c1, .int .i64 d1, .int .i64 e1, .int .i64 a2, .int .i64 b2, .int .i64 c2, .int .i64 d2, .int .i64 e2, .int .i64 a3, .int .i64 b3, .int .i64 c3, .int .i64 d3, .int .i64 e3] 67)
  go_enter Tryd.func57, Tryd.ntmps57
  go_wp2_with (refine wpList_load_row rfl 67 _ rfl w.heap.size rfl 67 _ (0, 0) _ hg Tryd.underlying67 rfl (info67 _ _ _ _ _ _ _ _ _ _ _ _ _ _ _ _ _ _ _ _) ?_)
  go_ret
  exact ⟨rfl, (by repeat' (first | exact Below.refl _ _ | refine bel_new ?_ _ | refine Below.drew ?_))⟩
@[go_sem] theorem idx67_0 (a0 b0 c0 d0 e0 a1 b1 c1 d1 e1 a2 b2 c2 d2 e2 a3 b3 c3 d3 e3 : Int) (w : World) : (Instr.index 67 (.agg #[.int .i64 a0, .int .i64 b0, .int .i64 c0, .int .i64 d0, .int .i64 e0, .int .i64 a1, .int .i64 b1, .int .i64 c1, .int .i64 d1, .int .i64 e1, .int .i64 a2, .int .i64 b2, .int .i64 c2, .int .i64 d2, .int .i64 e2, .int .i64 a3, .int .i64 b3, .int .i64 c3, .int .i64 d3, .int .i64 e3]) (.int .i64 0)).run Tryd.prog w = .ok (.agg #[.int .i64 a0, .int .i64 b0, .int .i64 c0, .int .i64 d0, .int .i64 e0]) w := by
  have hz := Tryd.sizeOf24
  have hg := Tryd.isAgg24
  simp [Instr.index, run_underlying Tryd.underlying67, asIntOf, part, Sem.run_bind, hz, hg, go_sem]
@[go_sem] theorem idx67_1 (a0 b0 c0 d0 e0 a1 b1 c1 d1 e1 a2 b2 c2 d2 e2 a3 b3 c3 d3 e3 : Int) (w : World) : (Instr.index 67 (.agg #[.int .i64 a0, .int .i64 b0, .int .i64 c0, .int .i64 d0, .int .i64 e0, .int .i64 a1, .int .i64 b1, .int .i64 c1, .int .i64 d1, .int .i64 e1, .int .i64 a2, .int .i64 b2, .int .i64 c2, .int .i64 d2, .int .i64 e2, .int .i64 a3, .int .i64 b3, .int .i64 c3, .int .i64 d3, .int .i64 e3]) (.int .i64 1)).run Tryd.prog w = .ok (.agg #[.int .i64 a1, .int .i64 b1, .int .i64 c1, .int .i64 d1, .int .i64 e1]) w := by
  have hz := Tryd.sizeOf24
  have hg := Tryd.isAgg24
  simp [Instr.index, run_underlying Tryd.underlying67, asIntOf, part, Sem.run_bind, hz, hg, go_sem]
@[go_sem] theorem idx67_2 (a0 b0 c0 d0 e0 a1 b1 c1 d1 e1 a2 b2 c2 d2 e2 a3 b3 c3 d3 e3 : Int) (w : World) : (Instr.index 67 (.agg #[.int .i64 a0, .int .i64 b0, .int .i64 c0, .int .i64 d0, .int .i64 e0, .int .i64 a1, .int .i64 b1, .int .i64 c1, .int .i64 d1, .int .i64 e1, .int .i64 a2, .int .i64 b2, .int .i64 c2, .int .i64 d2, .int .i64 e2, .int .i64 a3, .int .i64 b3, .int .i64 c3, .int .i64 d3, .int .i64 e3]) (.int .i64 2)).run Tryd.prog w = .ok (.agg #[.int .i64 a2, .int .i64 b2, .int .i64 c2, .int .i64 d2, .int .i64 e2]) w := by
  have hz := Tryd.sizeOf24
  have hg := Tryd.isAgg24
  simp [Instr.index, run_underlying Tryd.underlying67, asIntOf, part, Sem.run_bind, hz, hg, go_sem]
@[go_sem] theorem idx67_3 (a0 b0 c0 d0 e0 a1 b1 c1 d1 e1 a2 b2 c2 d2 e2 a3 b3 c3 d3 e3 : Int) (w : World) : (Instr.index 67 (.agg #[.int .i64 a0, .int .i64 b0, .int .i64 c0, .int .i64 d0, .int .i64 e0, .int .i64 a1, .int .i64 b1, .int .i64 c1, .int .i64 d1, .int .i64 e1, .int .i64 a2, .int .i64 b2, .int .i64 c2, .int .i64 d2, .int .i64 e2, .int .i64 a3, .int .i64 b3, .int .i64 c3, .int .i64 d3, .int .i64 e3]) (.int .i64 3)).run Tryd.prog w = .ok (.agg #[.int .i64 a3, .int .i64 b3, .int .i64 c3, .int .i64 d3, .int .i64 e3]) w := by
  have hz := Tryd.sizeOf24
  have hg := Tryd.isAgg24
  simp [Instr.index, run_underlying Tryd.underlying67, asIntOf, part, Sem.run_bind, hz, hg, go_sem]

/-- The box of an array, kept since its making. -/
def FB (w : World) (cs : Array Value) (W : World) : Prop := W.heap[w.heap.size]? = some (.cells cs 67 (0, 0)) ∧ w.heap.size < W.heap.size ∧ Below w.heap.size w W
theorem FB.new (w : World) (cs : Array Value) : FB w cs (w.alloc (.cells cs 67)) := ⟨heap_alloc_new w _, by simp, bel_new (Below.refl _ _) _⟩
theorem FB.next {w W W' : World} {cs : Array Value} (h : FB w cs W) (hb : Below W.heap.size W W') : FB w cs W' := ⟨(hb.block _ h.2.1).trans h.1, Nat.lt_of_lt_of_le h.2.1 hb.size, bel_then h.2.2 hb⟩
theorem FB.more {w W : World} {cs : Array Value} (h : FB w cs W) (o : Obj) : FB w cs (W.alloc o) := h.next (bel_new (Below.refl _ _) _)

set_option maxRecDepth 100000 in
set_option maxHeartbeats 4000000 in
theorem okf_any (a0 b0 c0 d0 e0 a1 b1 c1 d1 e1 a2 b2 c2 d2 e2 a3 b3 c3 d3 e3 : Int) (o0 o1 o2 o3 z : Bool) (w : World)
    (hO0 : ∀ w, Calls Tryd.prog 42 #[.agg #[.int .i64 a0, .int .i64 b0, .int .i64 c0, .int .i64 d0, .int .i64 e0]] w fun r w' => r = .returned (.bool o0) ∧ Below w.heap.size w w')
    (hO1 : ∀ w, Calls Tryd.prog 42 #[.agg #[.int .i64 a1, .int .i64 b1, .int .i64 c1, .int .i64 d1, .int .i64 e1]] w fun r w' => r = .returned (.bool o1) ∧ Below w.heap.size w w')
    (hO2 : ∀ w, Calls Tryd.prog 42 #[.agg #[.int .i64 a2, .int .i64 b2, .int .i64 c2, .int .i64 d2, .int .i64 e2]] w fun r w' => r = .returned (.bool o2) ∧ Below w.heap.size w w')
    (hO3 : ∀ w, Calls Tryd.prog 42 #[.agg #[.int .i64 a3, .int .i64 b3, .int .i64 c3, .int .i64 d3, .int .i64 e3]] w fun r w' => r = .returned (.bool o3) ∧ Below w.heap.size w w')
    (hE : ∀ w, Calls Tryd.prog 57 #[.agg #[.int .i64 a0, .int .i64 b0, .int .i64 c0, .int .i64 d0, .int .i64 e0, .int .i64 a1, .int .i64 b1, .int .i64 c1, .int .i64 d1, .int .i64 e1, .int .i64 a2, .int .i64 b2, .int .i64 c2, .int .i64 d2, .int .i64 e2, .int .i64 a3, .int .i64 b3, .int .i64 c3, .int .i64 d3, .int .i64 e3]] w fun r w' => r = .returned (.bool z) ∧ Below w.heap.size w w') :
    Calls Tryd.prog 54 #[.agg #[.int .i64 a0, .int .i64 b0, .int .i64 c0, .int .i64 d0, .int .i64 e0, .int .i64 a1, .int .i64 b1, .int .i64 c1, .int .i64 d1, .int .i64 e1, .int .i64 a2, .int .i64 b2, .int .i64 c2, .int .i64 d2, .int .i64 e2, .int .i64 a3, .int .i64 b3, .int .i64 c3, .int .i64 d3, .int .i64 e3]] w fun r w' => r = .returned (.bool (o0 && o1 && o2 && o3 && !z)) ∧ Below w.heap.size w w' := by
  have X0 := FB.new w #[.int .i64 a0, .int .i64 b0, .int .i64 c0, .int .i64 d0, .int .i64 e0, .int .i64 a1, .int .i64 b1, .int .i64 c1, .int .i64 d1, .int .i64 e1, .int .i64 a2, .int .i64 b2, .int .i64 c2, .int .i64 d2, .int .i64 e2, .int .i64 a3, .int .i64 b3, .int .i64 c3, .int .i64 d3, .int .i64 e3]
  have hg := X0.1
  cases o0
  · skip
    go_enter Tryd.func54, Tryd.ntmps54
    go_wp2_with (refine wpList_load_row rfl 67 _ rfl w.heap.size rfl 67 #[.int .i64 a0, .int .i64 b0, .int .i64 c0, .int .i64 d0, .int .i64 e0, .int .i64 a1, .int .i64 b1, .int .i64 c1, .int .i64 d1, .int .i64 e1, .int .i64 a2, .int .i64 b2, .int .i64 c2, .int .i64 d2, .int .i64 e2, .int .i64 a3, .int .i64 b3, .int .i64 c3, .int .i64 d3, .int .i64 e3] (0, 0) _ (by assumption) Tryd.underlying67 rfl (info67 _ _ _ _ _ _ _ _ _ _ _ _ _ _ _ _ _ _ _ _) ?_)
    refine wp_loop_rounds 5 ?_
    rw [rounds_succ]
    go_wp2_with (go_at_call 42; refine (hO0 _).mono ?_; rintro r w1 ⟨rfl, hb1⟩; have X1 := (X0.more (.cells #[.int .i64 a0, .int .i64 b0, .int .i64 c0, .int .i64 d0, .int .i64 e0] 24)).next hb1; have hg1 := X1.1)
    go_ret
    exact ⟨rfl, X1.2.2⟩
  · cases o1
    · skip
      go_enter Tryd.func54, Tryd.ntmps54
      go_wp2_with (refine wpList_load_row rfl 67 _ rfl w.heap.size rfl 67 #[.int .i64 a0, .int .i64 b0, .int .i64 c0, .int .i64 d0, .int .i64 e0, .int .i64 a1, .int .i64 b1, .int .i64 c1, .int .i64 d1, .int .i64 e1, .int .i64 a2, .int .i64 b2, .int .i64 c2, .int .i64 d2, .int .i64 e2, .int .i64 a3, .int .i64 b3, .int .i64 c3, .int .i64 d3, .int .i64 e3] (0, 0) _ (by assumption) Tryd.underlying67 rfl (info67 _ _ _ _ _ _ _ _ _ _ _ _ _ _ _ _ _ _ _ _) ?_)
      refine wp_loop_rounds 5 ?_
      rw [rounds_succ]
      go_wp2_with (go_at_call 42; refine (hO0 _).mono ?_; rintro r w1 ⟨rfl, hb1⟩; have X1 := (X0.more (.cells #[.int .i64 a0, .int .i64 b0, .int .i64 c0, .int .i64 d0, .int .i64 e0] 24)).next hb1; have hg1 := X1.1)
      rw [rounds_succ]
      go_wp2_with (go_at_call 42; refine (hO1 _).mono ?_; rintro r w2 ⟨rfl, hb2⟩; have X2 := (X1.more (.cells #[.int .i64 a1, .int .i64 b1, .int .i64 c1, .int .i64 d1, .int .i64 e1] 24)).next hb2; have hg2 := X2.1)
      go_ret
      exact ⟨rfl, X2.2.2⟩
    · cases o2
      · skip
        go_enter Tryd.func54, Tryd.ntmps54
        go_wp2_with (refine wpList_load_row rfl 67 _ rfl w.heap.size rfl 67 #[.int .i64 a0, .int .i64 b0, .int .i64 c0, .int .i64 d0, .int .i64 e0, .int .i64 a1, .int .i64 b1, .int .i64 c1, .int .i64 d1, .int .i64 e1, .int .i64 a2, .int .i64 b2, .int .i64 c2, .int .i64 d2, .int .i64 e2, .int .i64 a3, .int .i64 b3, .int .i64 c3, .int .i64 d3, .int .i64 e3] (0, 0) _ (by assumption) Tryd.underlying67 rfl (info67 _ _ _ _ _ _ _ _ _ _ _ _ _ _ _ _ _ _ _ _) ?_)
        refine wp_loop_rounds 5 ?_
        rw [rounds_succ]
        go_wp2_with (go_at_call 42; refine (hO0 _).mono ?_; rintro r w1 ⟨rfl, hb1⟩; have X1 := (X0.more (.cells #[.int .i64 a0, .int .i64 b0, .int .i64 c0, .int .i64 d0, .int .i64 e0] 24)).next hb1; have hg1 := X1.1)
        rw [rounds_succ]
        go_wp2_with (go_at_call 42; refine (hO1 _).mono ?_; rintro r w2 ⟨rfl, hb2⟩; have X2 := (X1.more (.cells #[.int .i64 a1, .int .i64 b1, .int .i64 c1, .int .i64 d1, .int .i64 e1] 24)).next hb2; have hg2 := X2.1)
        rw [rounds_succ]
        go_wp2_with (go_at_call 42; refine (hO2 _).mono ?_; rintro r w3 ⟨rfl, hb3⟩; have X3 := (X2.more (.cells #[.int .i64 a2, .int .i64 b2, .int .i64 c2, .int .i64 d2, .int .i64 e2] 24)).next hb3; have hg3 := X3.1)
        go_ret
        exact ⟨rfl, X3.2.2⟩
      · cases o3
        · skip
          go_enter Tryd.func54, Tryd.ntmps54
          go_wp2_with (refine wpList_load_row rfl 67 _ rfl w.heap.size rfl 67 #[.int .i64 a0, .int .i64 b0, .int .i64 c0, .int .i64 d0, .int .i64 e0, .int .i64 a1, .int .i64 b1, .int .i64 c1, .int .i64 d1, .int .i64 e1, .int .i64 a2, .int .i64 b2, .int .i64 c2, .int .i64 d2, .int .i64 e2, .int .i64 a3, .int .i64 b3, .int .i64 c3, .int .i64 d3, .int .i64 e3] (0, 0) _ (by assumption) Tryd.underlying67 rfl (info67 _ _ _ _ _ _ _ _ _ _ _ _ _ _ _ _ _ _ _ _) ?_)
          refine wp_loop_rounds 5 ?_
          rw [rounds_succ]
          go_wp2_with (go_at_call 42; refine (hO0 _).mono ?_; rintro r w1 ⟨rfl, hb1⟩; have X1 := (X0.more (.cells #[.int .i64 a0, .int .i64 b0, .int .i64 c0, .int .i64 d0, .int .i64 e0] 24)).next hb1; have hg1 := X1.1)
          rw [rounds_succ]
          go_wp2_with (go_at_call 42; refine (hO1 _).mono ?_; rintro r w2 ⟨rfl, hb2⟩; have X2 := (X1.more (.cells #[.int .i64 a1, .int .i64 b1, .int .i64 c1, .int .i64 d1, .int .i64 e1] 24)).next hb2; have hg2 := X2.1)
          rw [rounds_succ]
          go_wp2_with (go_at_call 42; refine (hO2 _).mono ?_; rintro r w3 ⟨rfl, hb3⟩; have X3 := (X2.more (.cells #[.int .i64 a2, .int .i64 b2, .int .i64 c2, .int .i64 d2, .int .i64 e2] 24)).next hb3; have hg3 := X3.1)
          rw [rounds_succ]
          go_wp2_with (go_at_call 42; refine (hO3 _).mono ?_; rintro r w4 ⟨rfl, hb4⟩; have X4 := (X3.more (.cells #[.int .i64 a3, .int .i64 b3, .int .i64 c3, .int .i64 d3, .int .i64 e3] 24)).next hb4; have hg4 := X4.1)
          go_ret
          exact ⟨rfl, X4.2.2⟩
        · skip
          go_enter Tryd.func54, Tryd.ntmps54
          go_wp2_with (refine wpList_load_row rfl 67 _ rfl w.heap.size rfl 67 #[.int .i64 a0, .int .i64 b0, .int .i64 c0, .int .i64 d0, .int .i64 e0, .int .i64 a1, .int .i64 b1, .int .i64 c1, .int .i64 d1, .int .i64 e1, .int .i64 a2, .int .i64 b2, .int .i64 c2, .int .i64 d2, .int .i64 e2, .int .i64 a3, .int .i64 b3, .int .i64 c3, .int .i64 d3, .int .i64 e3] (0, 0) _ (by assumption) Tryd.underlying67 rfl (info67 _ _ _ _ _ _ _ _ _ _ _ _ _ _ _ _ _ _ _ _) ?_)
          refine wp_loop_rounds 5 ?_
          rw [rounds_succ]
          go_wp2_with (go_at_call 42; refine (hO0 _).mono ?_; rintro r w1 ⟨rfl, hb1⟩; have X1 := (X0.more (.cells #[.int .i64 a0, .int .i64 b0, .int .i64 c0, .int .i64 d0, .int .i64 e0] 24)).next hb1; have hg1 := X1.1)
          rw [rounds_succ]
          go_wp2_with (go_at_call 42; refine (hO1 _).mono ?_; rintro r w2 ⟨rfl, hb2⟩; have X2 := (X1.more (.cells #[.int .i64 a1, .int .i64 b1, .int .i64 c1, .int .i64 d1, .int .i64 e1] 24)).next hb2; have hg2 := X2.1)
          rw [rounds_succ]
          go_wp2_with (go_at_call 42; refine (hO2 _).mono ?_; rintro r w3 ⟨rfl, hb3⟩; have X3 := (X2.more (.cells #[.int .i64 a2, .int .i64 b2, .int .i64 c2, .int .i64 d2, .int .i64 e2] 24)).next hb3; have hg3 := X3.1)
          rw [rounds_succ]
          go_wp2_with (go_at_call 42; refine (hO3 _).mono ?_; rintro r w4 ⟨rfl, hb4⟩; have X4 := (X3.more (.cells #[.int .i64 a3, .int .i64 b3, .int .i64 c3, .int .i64 d3, .int .i64 e3] 24)).next hb4; have hg4 := X4.1)
          rw [rounds_succ]
          go_wp2_with (first | (go_at_call 57; refine (hE _).mono ?_; rintro r w5 ⟨rfl, hb5⟩; have X5 := X4.next hb5) | refine wpList_load_row rfl 67 _ rfl w.heap.size rfl 67 #[.int .i64 a0, .int .i64 b0, .int .i64 c0, .int .i64 d0, .int .i64 e0, .int .i64 a1, .int .i64 b1, .int .i64 c1, .int .i64 d1, .int .i64 e1, .int .i64 a2, .int .i64 b2, .int .i64 c2, .int .i64 d2, .int .i64 e2, .int .i64 a3, .int .i64 b3, .int .i64 c3, .int .i64 d3, .int .i64 e3] (0, 0) _ (by assumption) Tryd.underlying67 rfl (info67 _ _ _ _ _ _ _ _ _ _ _ _ _ _ _ _ _ _ _ _) ?_)
          go_ret
          exact ⟨rfl, X5.2.2⟩


/-- A block that holds these cells. -/
structure RowB (B : Nat) (t : TypeId) (cs : Array Value) (W : World) : Prop where
  blk : W.heap[B]? = some (.cells cs t (0, 0))
theorem RowB.lt {B : Nat} {t : TypeId} {cs : Array Value} {W : World} (h : RowB B t cs W) : B < W.heap.size := (Array.getElem?_eq_some_iff.1 h.blk).1
theorem RowB.below {B : Nat} {t : TypeId} {cs : Array Value} {W W' : World} (h : RowB B t cs W) (hb : Below W.heap.size W W') : RowB B t cs W' := ⟨(hb.block B h.lt).trans h.blk⟩
theorem RowB.cell {B : Nat} {t : TypeId} {cs : Array Value} {W : World} (h : RowB B t cs W) (k : Nat) : W.cell? ⟨B, k, none⟩ = cs[k]? := cell_of_row W B k cs t _ h.blk
theorem RowB.free {B : Nat} {t : TypeId} {cs : Array Value} {W : World} (h : RowB B t cs W) (k : Nat) : W.frozen? ⟨B, k, none⟩ = false := by
  have := h.blk
  simp [World.frozen?, this]
theorem RowB.set {B : Nat} {t : TypeId} {cs : Array Value} {W : World} (h : RowB B t cs W) (k : Nat) (v : Value) : RowB B t (cs.setIfInBounds k v) (W.setCell ⟨B, k, none⟩ v) := by
  have := h.blk
  exact ⟨by simp [World.setCell, Array.getElem?_modify, this]⟩
theorem RowB.new (W : World) (t : TypeId) (cs : Array Value) : RowB W.heap.size t cs (W.alloc (.cells cs t)) := ⟨heap_alloc_new W _⟩
theorem bel_fresh2 {o : Obj} (w : World) : Below w.heap.size w (w.alloc o) := bel_new (Below.refl _ _) o

theorem join4 {g : Nat} {W : World} (s0 s1 s2 s3 : ByteArray) (Y : RowB g 79 #[.string s0, .string s1, .string s2, .string s3] W) (l0 : s0.size ≤ 49) (l1 : s1.size ≤ 49) (l2 : s2.size ≤ 49) (l3 : s3.size ≤ 49) :
    Calls Tryd.prog 63 #[.slice (some ⟨g, 0, none⟩) 4 4, .string ⟨#[44]⟩] W fun e w' => e = .returned (.string ⟨(Lib.join ([s0, s1, s2, s3].map (·.data.toList)) [44]).toArray⟩) ∧ Below W.heap.size W w' := by
  have hl : ∀ s : ByteArray, s.data.toList.length = s.size := fun s => by simp
  exact Tryd.strings_Join g 0 4 [s0, s1, s2, s3] ⟨#[44]⟩ W (fun j s hs => by
    match j, hs with
    | 0, hs => cases hs; exact Y.cell 0
    | 1, hs => cases hs; exact Y.cell 1
    | 2, hs => cases hs; exact Y.cell 2
    | 3, hs => cases hs; exact Y.cell 3
    | j + 4, hs => simp at hs) Y.lt (by simp) (by simp) (by
      have h0 := hl s0
      have h1 := hl s1
      have h2 := hl s2
      have h3 := hl s3
      have e : Lib.join ([s0, s1, s2, s3].map (·.data.toList)) (⟨#[44]⟩ : ByteArray).data.toList = s0.data.toList ++ ([44] ++ (s1.data.toList ++ ([44] ++ (s2.data.toList ++ ([44] ++ s3.data.toList))))) := by simp [Lib.join, List.intercalate, List.intersperse]
      rw [e]
      simp only [List.length_append, List.length_singleton, h0, h1, h2, h3]
      omega)

set_option maxRecDepth 100000 in
set_option maxHeartbeats 4000000 in
theorem textf_any (a0 b0 c0 d0 e0 a1 b1 c1 d1 e1 a2 b2 c2 d2 e2 a3 b3 c3 d3 e3 : Int) (s0 s1 s2 s3 : ByteArray) (w : World)
    (hT0 : ∀ W, Below w.heap.size w W → Calls Tryd.prog 45 #[.agg #[.int .i64 a0, .int .i64 b0, .int .i64 c0, .int .i64 d0, .int .i64 e0]] W fun r w' => r = .returned (.string s0) ∧ Below W.heap.size W w')
    (hT1 : ∀ W, Below w.heap.size w W → Calls Tryd.prog 45 #[.agg #[.int .i64 a1, .int .i64 b1, .int .i64 c1, .int .i64 d1, .int .i64 e1]] W fun r w' => r = .returned (.string s1) ∧ Below W.heap.size W w')
    (hT2 : ∀ W, Below w.heap.size w W → Calls Tryd.prog 45 #[.agg #[.int .i64 a2, .int .i64 b2, .int .i64 c2, .int .i64 d2, .int .i64 e2]] W fun r w' => r = .returned (.string s2) ∧ Below W.heap.size W w')
    (hT3 : ∀ W, Below w.heap.size w W → Calls Tryd.prog 45 #[.agg #[.int .i64 a3, .int .i64 b3, .int .i64 c3, .int .i64 d3, .int .i64 e3]] W fun r w' => r = .returned (.string s3) ∧ Below W.heap.size W w')
    (l0 : s0.size ≤ 49) (l1 : s1.size ≤ 49) (l2 : s2.size ≤ 49) (l3 : s3.size ≤ 49) :
    Calls Tryd.prog 55 #[.agg #[.int .i64 a0, .int .i64 b0, .int .i64 c0, .int .i64 d0, .int .i64 e0, .int .i64 a1, .int .i64 b1, .int .i64 c1, .int .i64 d1, .int .i64 e1, .int .i64 a2, .int .i64 b2, .int .i64 c2, .int .i64 d2, .int .i64 e2, .int .i64 a3, .int .i64 b3, .int .i64 c3, .int .i64 d3, .int .i64 e3]] w fun r w' => r = .returned (.string ⟨(Lib.join ([s0, s1, s2, s3].map (·.data.toList)) [44]).toArray⟩) ∧ Below w.heap.size w w' := by
  have X0 := FB.new w #[.int .i64 a0, .int .i64 b0, .int .i64 c0, .int .i64 d0, .int .i64 e0, .int .i64 a1, .int .i64 b1, .int .i64 c1, .int .i64 d1, .int .i64 e1, .int .i64 a2, .int .i64 b2, .int .i64 c2, .int .i64 d2, .int .i64 e2, .int .i64 a3, .int .i64 b3, .int .i64 c3, .int .i64 d3, .int .i64 e3]
  have hg := (X0.more (.cells #[.string ⟨#[]⟩, .string ⟨#[]⟩, .string ⟨#[]⟩, .string ⟨#[]⟩] 79)).1
  have Y0 := RowB.new (w.alloc (.cells #[.int .i64 a0, .int .i64 b0, .int .i64 c0, .int .i64 d0, .int .i64 e0, .int .i64 a1, .int .i64 b1, .int .i64 c1, .int .i64 d1, .int .i64 e1, .int .i64 a2, .int .i64 b2, .int .i64 c2, .int .i64 d2, .int .i64 e2, .int .i64 a3, .int .i64 b3, .int .i64 c3, .int .i64 d3, .int .i64 e3] 67)) 79 #[.string ⟨#[]⟩, .string ⟨#[]⟩, .string ⟨#[]⟩, .string ⟨#[]⟩]
  have B0 := (X0.more (.cells #[.string ⟨#[]⟩, .string ⟨#[]⟩, .string ⟨#[]⟩, .string ⟨#[]⟩] 79)).2.2
  rw [show (w.alloc (.cells #[.int .i64 a0, .int .i64 b0, .int .i64 c0, .int .i64 d0, .int .i64 e0, .int .i64 a1, .int .i64 b1, .int .i64 c1, .int .i64 d1, .int .i64 e1, .int .i64 a2, .int .i64 b2, .int .i64 c2, .int .i64 d2, .int .i64 e2, .int .i64 a3, .int .i64 b3, .int .i64 c3, .int .i64 d3, .int .i64 e3] 67)).heap.size = w.heap.size + 1 by simp] at Y0
  go_enter Tryd.func55, Tryd.ntmps55
  go_wp2_with (refine wpList_load_row rfl 67 _ rfl w.heap.size rfl 67 #[.int .i64 a0, .int .i64 b0, .int .i64 c0, .int .i64 d0, .int .i64 e0, .int .i64 a1, .int .i64 b1, .int .i64 c1, .int .i64 d1, .int .i64 e1, .int .i64 a2, .int .i64 b2, .int .i64 c2, .int .i64 d2, .int .i64 e2, .int .i64 a3, .int .i64 b3, .int .i64 c3, .int .i64 d3, .int .i64 e3] (0, 0) _ (by assumption) Tryd.underlying67 rfl (info67 _ _ _ _ _ _ _ _ _ _ _ _ _ _ _ _ _ _ _ _) ?_)
  refine wp_loop_rounds 5 ?_
  rw [rounds_succ]
  have D0 := bel_then B0 (bel_fresh2 _ (o := .cells #[.int .i64 a0, .int .i64 b0, .int .i64 c0, .int .i64 d0, .int .i64 e0] 24))
  go_wp2_with (go_at_call 45; refine (hT0 _ D0).mono ?_; rintro r w1 ⟨rfl, hb1⟩; have R0 := (Y0.below (bel_fresh2 _ (o := .cells #[.int .i64 a0, .int .i64 b0, .int .i64 c0, .int .i64 d0, .int .i64 e0] 24))).below hb1; have vc0 := R0.cell 0; have vf0 := R0.free 0)
  have Y1 := R0.set 0 (.string s0)
  have B1 := (bel_then D0 hb1).setCell (p := ⟨w.heap.size + 1, 0, none⟩) (Nat.le_succ _) (.string s0)
  rw [show (#[.string ⟨#[]⟩, .string ⟨#[]⟩, .string ⟨#[]⟩, .string ⟨#[]⟩] : Array Value).setIfInBounds 0 (.string s0) = #[.string s0, .string ⟨#[]⟩, .string ⟨#[]⟩, .string ⟨#[]⟩] from rfl] at Y1
  rw [rounds_succ]
  have D1 := bel_then B1 (bel_fresh2 _ (o := .cells #[.int .i64 a1, .int .i64 b1, .int .i64 c1, .int .i64 d1, .int .i64 e1] 24))
  go_wp2_with (go_at_call 45; refine (hT1 _ D1).mono ?_; rintro r w2 ⟨rfl, hb2⟩; have R1 := (Y1.below (bel_fresh2 _ (o := .cells #[.int .i64 a1, .int .i64 b1, .int .i64 c1, .int .i64 d1, .int .i64 e1] 24))).below hb2; have vc1 := R1.cell 1; have vf1 := R1.free 1)
  have Y2 := R1.set 1 (.string s1)
  have B2 := (bel_then D1 hb2).setCell (p := ⟨w.heap.size + 1, 1, none⟩) (Nat.le_succ _) (.string s1)
  rw [show (#[.string s0, .string ⟨#[]⟩, .string ⟨#[]⟩, .string ⟨#[]⟩] : Array Value).setIfInBounds 1 (.string s1) = #[.string s0, .string s1, .string ⟨#[]⟩, .string ⟨#[]⟩] from rfl] at Y2
  rw [rounds_succ]
  have D2 := bel_then B2 (bel_fresh2 _ (o := .cells #[.int .i64 a2, .int .i64 b2, .int .i64 c2, .int .i64 d2, .int .i64 e2] 24))
  go_wp2_with (go_at_call 45; refine (hT2 _ D2).mono ?_; rintro r w3 ⟨rfl, hb3⟩; have R2 := (Y2.below (bel_fresh2 _ (o := .cells #[.int .i64 a2, .int .i64 b2, .int .i64 c2, .int .i64 d2, .int .i64 e2] 24))).below hb3; have vc2 := R2.cell 2; have vf2 := R2.free 2)
  have Y3 := R2.set 2 (.string s2)
  have B3 := (bel_then D2 hb3).setCell (p := ⟨w.heap.size + 1, 2, none⟩) (Nat.le_succ _) (.string s2)
  rw [show (#[.string s0, .string s1, .string ⟨#[]⟩, .string ⟨#[]⟩] : Array Value).setIfInBounds 2 (.string s2) = #[.string s0, .string s1, .string s2, .string ⟨#[]⟩] from rfl] at Y3
  rw [rounds_succ]
  have D3 := bel_then B3 (bel_fresh2 _ (o := .cells #[.int .i64 a3, .int .i64 b3, .int .i64 c3, .int .i64 d3, .int .i64 e3] 24))
  go_wp2_with (go_at_call 45; refine (hT3 _ D3).mono ?_; rintro r w4 ⟨rfl, hb4⟩; have R3 := (Y3.below (bel_fresh2 _ (o := .cells #[.int .i64 a3, .int .i64 b3, .int .i64 c3, .int .i64 d3, .int .i64 e3] 24))).below hb4; have vc3 := R3.cell 3; have vf3 := R3.free 3)
  have Y4 := R3.set 3 (.string s3)
  have B4 := (bel_then D3 hb4).setCell (p := ⟨w.heap.size + 1, 3, none⟩) (Nat.le_succ _) (.string s3)
  rw [show (#[.string s0, .string s1, .string s2, .string ⟨#[]⟩] : Array Value).setIfInBounds 3 (.string s3) = #[.string s0, .string s1, .string s2, .string s3] from rfl] at Y4
  rw [rounds_succ]
  have hJ := join4 s0 s1 s2 s3 Y4 l0 l1 l2 l3
  go_wp2_with (go_at_call 63; refine hJ.mono ?_; rintro r w5 ⟨rfl, hb5⟩)
  go_ret
  exact ⟨rfl, bel_then B4 hb5⟩
end Go.Proofs.YtlfggmllpbghaaaDoor
