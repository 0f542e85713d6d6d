/-
  Indirect blocks of the program: an array of four pointers: whether all are holes, whether it is valid, its text.
  FanPut, the program's: the text of four pointers, or none.
  readParts and PtrGet, the program's: what they answer at every text.
  The text of a pointer tells the pointer; FnPtrApart, FnPtrOk and FnPtrHole, their walks.
  Reading a pointer's text gives the pointer back; and what is read is the text of what is read.
  Lists of pointers: how they lie in memory, and the text of an indirect block.
  FanPut, the model's: the text of a list of pointers, or none.
  A law's copy of a list of pointers, its weight, and whether two lists are equal.
  FanGet, the model's: the pointers of an indirect block, or that a text is none.
  FanGet, the program's: the pointers of an indirect block, or that a text is none.
-/
import Derived.Test.YtjmfefaoenmppaaGreatDoorKC
import Derived.Laws.Cover3
import Derived.Deep.WholeRow
import Derived.Deep.MidRow
import Derived.Deep.RegionHeld3
set_option linter.unusedVariables false

namespace Go.Proofs.YtjmfefaoenmppaaGreatDoor.Fx
open Go.RowKit

theorem eq24_9 (a b c d e a' b' c' d' e' : Int) (w : World) :
    (Op.equalIn 9999 40 (.agg #[.int .i64 a, .int .i64 b, .int .i64 c, .int .i64 d, .int .i64 e]) (.agg #[.int .i64 a', .int .i64 b', .int .i64 c', .int .i64 d', .int .i64 e'])).run Tryz.prog w = .ok (same a b c d e a' b' c' d' e') w := by
  unfold same
  have u3 := Tryz.underlying3
  have a3 := Tryz.isAgg3
  have z3 := Tryz.sizeOf3
  have hS : Tryz.prog.underlying 40 = some (.struct (Tryz.prog.fieldsOf 40)) := by kernel_rfl
  have hp : Tryz.prog.stoodInHeld 40 = false := by kernel_rfl
  rw [show (9999 : Nat) = 9998 + 1 from rfl, run_equalIn_agg w 9998 40 _ _ hS hp]
  simp only [Program.fieldsOf, Tryz.underlying40]
  go_simp
  by_cases h1 : a = a' <;> by_cases h2 : b = b' <;> by_cases h3 : c = c' <;> by_cases h4 : d = d' <;> by_cases h5 : e = e' <;> simp [h1, h2, h3, h4, h5]

/-- Two arrays of four: element by element. -/
theorem run_equalIn_array4 {P : Program} (w : World) (d : Nat) (t e : TypeId) (n : Nat) (xs ys : Array Value) (r0 r1 r2 r3 : Bool) (ht : P.underlying t = some (.array 4 e)) (hn : ∀ w, (sizeOf e).run P w = .ok n w) (hg : ∀ w, (isAgg e).run P w = .ok true w)
    (h0 : (Op.equalIn d e (.agg (xs.extract (0 * n) (0 * n + n))) (.agg (ys.extract (0 * n) (0 * n + n)))).run P w = .ok r0 w)
    (h1 : (Op.equalIn d e (.agg (xs.extract (1 * n) (1 * n + n))) (.agg (ys.extract (1 * n) (1 * n + n)))).run P w = .ok r1 w)
    (h2 : (Op.equalIn d e (.agg (xs.extract (2 * n) (2 * n + n))) (.agg (ys.extract (2 * n) (2 * n + n)))).run P w = .ok r2 w)
    (h3 : (Op.equalIn d e (.agg (xs.extract (3 * n) (3 * n + n))) (.agg (ys.extract (3 * n) (3 * n + n)))).run P w = .ok r3 w) :
    (Op.equalIn (d + 1) t (.agg xs) (.agg ys)).run P w = .ok (r0 && r1 && r2 && r3) w := by
  simp only [Op.equalIn, Sem.run_bind, run_underlying ht, Result.andThen_ok, hn, Std.Legacy.Range.forIn_eq_forIn_range']
  rw [show List.range' ([:4] : Std.Legacy.Range).start ([:4] : Std.Legacy.Range).size ([:4] : Std.Legacy.Range).step = [0, 1, 2, 3] from rfl]
  simp only [List.forIn_cons, List.forIn_nil, Sem.run_bind, part, hg, hn, Result.andThen_ok, Sem.run_pure, if_true, h0, Sem.run_ite]
  cases r0 <;> cases r1 <;> cases r2 <;> cases r3 <;> simp only [Bool.false_eq_true, if_true, if_false, Bool.not_true, Bool.not_false, Sem.run_bind, hg, hn, Result.andThen_ok, Sem.run_pure, h1, h2, h3, Sem.run_ite] <;> rfl

theorem ext_one (x0 x1 x2 x3 x4 x5 x6 x7 x8 x9 y0 y1 y2 y3 y4 y5 y6 y7 y8 y9 : Value) :
    (#[x0, x1, x2, x3, x4, x5, x6, x7, x8, x9, y0, y1, y2, y3, y4, y5, y6, y7, y8, y9] : Array Value).extract (0 * 5) (0 * 5 + 5) = #[x0, x1, x2, x3, x4] ∧
    (#[x0, x1, x2, x3, x4, x5, x6, x7, x8, x9, y0, y1, y2, y3, y4, y5, y6, y7, y8, y9] : Array Value).extract (1 * 5) (1 * 5 + 5) = #[x5, x6, x7, x8, x9] ∧
    (#[x0, x1, x2, x3, x4, x5, x6, x7, x8, x9, y0, y1, y2, y3, y4, y5, y6, y7, y8, y9] : Array Value).extract (2 * 5) (2 * 5 + 5) = #[y0, y1, y2, y3, y4] ∧
    (#[x0, x1, x2, x3, x4, x5, x6, x7, x8, x9, y0, y1, y2, y3, y4, y5, y6, y7, y8, y9] : Array Value).extract (3 * 5) (3 * 5 + 5) = #[y5, y6, y7, y8, y9] := by
  refine ⟨?_, ?_, ?_, ?_⟩ <;> simp [List.extract_eq_take_drop]

@[go_sem] theorem eq158 (a0 b0 c0 d0 e0 a1 b1 c1 d1 e1 a2 b2 c2 d2 e2 a3 b3 c3 d3 e3 : Int) (w : World) :
    (Op.equalIn 10000 158 (.agg #[.int .i64 a0, .int .i64 b0, .int .i64 c0, .int .i64 d0, .int .i64 e0, .int .i64 a1, .int .i64 b1, .int .i64 c1, .int .i64 d1, .int .i64 e1, .int .i64 a2, .int .i64 b2, .int .i64 c2, .int .i64 d2, .int .i64 e2, .int .i64 a3, .int .i64 b3, .int .i64 c3, .int .i64 d3, .int .i64 e3]) (.agg #[.int .i64 0, .int .i64 0, .int .i64 0, .int .i64 0, .int .i64 0, .int .i64 0, .int .i64 0, .int .i64 0, .int .i64 0, .int .i64 0, .int .i64 0, .int .i64 0, .int .i64 0, .int .i64 0, .int .i64 0, .int .i64 0, .int .i64 0, .int .i64 0, .int .i64 0, .int .i64 0])).run Tryz.prog w = .ok (isHole a0 b0 c0 d0 e0 && isHole a1 b1 c1 d1 e1 && isHole a2 b2 c2 d2 e2 && isHole a3 b3 c3 d3 e3) w := by
  have h : ∀ a b c d e : Int, (Op.equalIn 9999 40 (.agg #[.int .i64 a, .int .i64 b, .int .i64 c, .int .i64 d, .int .i64 e]) (.agg #[.int .i64 0, .int .i64 0, .int .i64 0, .int .i64 0, .int .i64 0])).run Tryz.prog w = .ok (isHole a b c d e) w := fun a b c d e => eq24_9 a b c d e 0 0 0 0 0 w
  obtain ⟨x0, x1, x2, x3⟩ := ext_one (.int .i64 a0) (.int .i64 b0) (.int .i64 c0) (.int .i64 d0) (.int .i64 e0) (.int .i64 a1) (.int .i64 b1) (.int .i64 c1) (.int .i64 d1) (.int .i64 e1) (.int .i64 a2) (.int .i64 b2) (.int .i64 c2) (.int .i64 d2) (.int .i64 e2) (.int .i64 a3) (.int .i64 b3) (.int .i64 c3) (.int .i64 d3) (.int .i64 e3)
  obtain ⟨y0, y1, y2, y3⟩ := ext_one (.int .i64 0) (.int .i64 0) (.int .i64 0) (.int .i64 0) (.int .i64 0) (.int .i64 0) (.int .i64 0) (.int .i64 0) (.int .i64 0) (.int .i64 0) (.int .i64 0) (.int .i64 0) (.int .i64 0) (.int .i64 0) (.int .i64 0) (.int .i64 0) (.int .i64 0) (.int .i64 0) (.int .i64 0) (.int .i64 0)
  rw [show (10000 : Nat) = 9999 + 1 from rfl]
  refine run_equalIn_array4 w 9999 158 40 5 _ _ _ _ _ _ Tryz.underlying158 Tryz.sizeOf40 Tryz.isAgg40 ?_ ?_ ?_ ?_
  · rw [x0, y0]; exact h a0 b0 c0 d0 e0
  · rw [x1, y1]; exact h a1 b1 c1 d1 e1
  · rw [x2, y2]; exact h a2 b2 c2 d2 e2
  · rw [x3, y3]; exact h a3 b3 c3 d3 e3

theorem info158 (a0 b0 c0 d0 e0 a1 b1 c1 d1 e1 a2 b2 c2 d2 e2 a3 b3 c3 d3 e3 : Int) : (Tryz.prog.info? 158).map (·.size) = some (#[.int .i64 a0, .int .i64 b0, .int .i64 c0, .int .i64 d0, .int .i64 e0, .int .i64 a1, .int .i64 b1, .int .i64 c1, .int .i64 d1, .int .i64 e1, .int .i64 a2, .int .i64 b2, .int .i64 c2, .int .i64 d2, .int .i64 e2, .int .i64 a3, .int .i64 b3, .int .i64 c3, .int .i64 d3, .int .i64 e3] : Array Value).size := by kernel_rfl
theorem m_empty (a0 b0 c0 d0 e0 a1 b1 c1 d1 e1 a2 b2 c2 d2 e2 a3 b3 c3 d3 e3 : Int) (w : World) : Calls Tryz.prog 137 #[.agg #[.int .i64 a0, .int .i64 b0, .int .i64 c0, .int .i64 d0, .int .i64 e0, .int .i64 a1, .int .i64 b1, .int .i64 c1, .int .i64 d1, .int .i64 e1, .int .i64 a2, .int .i64 b2, .int .i64 c2, .int .i64 d2, .int .i64 e2, .int .i64 a3, .int .i64 b3, .int .i64 c3, .int .i64 d3, .int .i64 e3]] w fun r w' => r = .returned (.bool (isHole a0 b0 c0 d0 e0 && isHole a1 b1 c1 d1 e1 && isHole a2 b2 c2 d2 e2 && isHole a3 b3 c3 d3 e3)) ∧ Below w.heap.size w w' := by
  have hg := heap_alloc_new w (.cells #[.int .i64 a0, .int .i64 b0, .int .i64 c0, .int .i64 d0, .int .i64 e0, .int .i64 a1, .int .i64 b1, .int .i64 c1, .int .i64 d1, .int .i64 e1, .int .i64 a2, .int .i64 b2, .int .i64 c2, .int .i64 d2, .int .i64 e2, .int .i64 a3, .int .i64 b3, .int .i64 c3, .int .i64 d3, .int .i64 e3] 158)
  go_enter Tryz.func137, Tryz.ntmps137
  go_wp2_with (refine wpList_load_row rfl 158 _ rfl w.heap.size rfl 158 _ (0, 0) _ hg Tryz.underlying158 rfl (info158 _ _ _ _ _ _ _ _ _ _ _ _ _ _ _ _ _ _ _ _) ?_)
  go_ret
  exact ⟨rfl, (by repeat' (first | exact Below.refl _ _ | refine bel_new ?_ _ | refine Below.drew ?_))⟩
@[go_sem] theorem idx67_0 (a0 b0 c0 d0 e0 a1 b1 c1 d1 e1 a2 b2 c2 d2 e2 a3 b3 c3 d3 e3 : Int) (w : World) : (Instr.index 158 (.agg #[.int .i64 a0, .int .i64 b0, .int .i64 c0, .int .i64 d0, .int .i64 e0, .int .i64 a1, .int .i64 b1, .int .i64 c1, .int .i64 d1, .int .i64 e1, .int .i64 a2, .int .i64 b2, .int .i64 c2, .int .i64 d2, .int .i64 e2, .int .i64 a3, .int .i64 b3, .int .i64 c3, .int .i64 d3, .int .i64 e3]) (.int .i64 0)).run Tryz.prog w = .ok (.agg #[.int .i64 a0, .int .i64 b0, .int .i64 c0, .int .i64 d0, .int .i64 e0]) w := by
  have hz := Tryz.sizeOf40
  have hg := Tryz.isAgg40
  simp [Instr.index, run_underlying Tryz.underlying158, asIntOf, part, Sem.run_bind, hz, hg, go_sem]
@[go_sem] theorem idx67_1 (a0 b0 c0 d0 e0 a1 b1 c1 d1 e1 a2 b2 c2 d2 e2 a3 b3 c3 d3 e3 : Int) (w : World) : (Instr.index 158 (.agg #[.int .i64 a0, .int .i64 b0, .int .i64 c0, .int .i64 d0, .int .i64 e0, .int .i64 a1, .int .i64 b1, .int .i64 c1, .int .i64 d1, .int .i64 e1, .int .i64 a2, .int .i64 b2, .int .i64 c2, .int .i64 d2, .int .i64 e2, .int .i64 a3, .int .i64 b3, .int .i64 c3, .int .i64 d3, .int .i64 e3]) (.int .i64 1)).run Tryz.prog w = .ok (.agg #[.int .i64 a1, .int .i64 b1, .int .i64 c1, .int .i64 d1, .int .i64 e1]) w := by
  have hz := Tryz.sizeOf40
  have hg := Tryz.isAgg40
  simp [Instr.index, run_underlying Tryz.underlying158, asIntOf, part, Sem.run_bind, hz, hg, go_sem]
@[go_sem] theorem idx67_2 (a0 b0 c0 d0 e0 a1 b1 c1 d1 e1 a2 b2 c2 d2 e2 a3 b3 c3 d3 e3 : Int) (w : World) : (Instr.index 158 (.agg #[.int .i64 a0, .int .i64 b0, .int .i64 c0, .int .i64 d0, .int .i64 e0, .int .i64 a1, .int .i64 b1, .int .i64 c1, .int .i64 d1, .int .i64 e1, .int .i64 a2, .int .i64 b2, .int .i64 c2, .int .i64 d2, .int .i64 e2, .int .i64 a3, .int .i64 b3, .int .i64 c3, .int .i64 d3, .int .i64 e3]) (.int .i64 2)).run Tryz.prog w = .ok (.agg #[.int .i64 a2, .int .i64 b2, .int .i64 c2, .int .i64 d2, .int .i64 e2]) w := by
  have hz := Tryz.sizeOf40
  have hg := Tryz.isAgg40
  simp [Instr.index, run_underlying Tryz.underlying158, asIntOf, part, Sem.run_bind, hz, hg, go_sem]
@[go_sem] theorem idx67_3 (a0 b0 c0 d0 e0 a1 b1 c1 d1 e1 a2 b2 c2 d2 e2 a3 b3 c3 d3 e3 : Int) (w : World) : (Instr.index 158 (.agg #[.int .i64 a0, .int .i64 b0, .int .i64 c0, .int .i64 d0, .int .i64 e0, .int .i64 a1, .int .i64 b1, .int .i64 c1, .int .i64 d1, .int .i64 e1, .int .i64 a2, .int .i64 b2, .int .i64 c2, .int .i64 d2, .int .i64 e2, .int .i64 a3, .int .i64 b3, .int .i64 c3, .int .i64 d3, .int .i64 e3]) (.int .i64 3)).run Tryz.prog w = .ok (.agg #[.int .i64 a3, .int .i64 b3, .int .i64 c3, .int .i64 d3, .int .i64 e3]) w := by
  have hz := Tryz.sizeOf40
  have hg := Tryz.isAgg40
  simp [Instr.index, run_underlying Tryz.underlying158, asIntOf, part, Sem.run_bind, hz, hg, go_sem]

/-- The box of an array, kept since its making. -/
def FB (w : World) (cs : Array Value) (W : World) : Prop := W.heap[w.heap.size]? = some (.cells cs 158 (0, 0)) ∧ w.heap.size < W.heap.size ∧ Below w.heap.size w W
theorem FB.new (w : World) (cs : Array Value) : FB w cs (w.alloc (.cells cs 158)) := ⟨heap_alloc_new w _, by simp, bel_new (Below.refl _ _) _⟩
theorem FB.next {w W W' : World} {cs : Array Value} (h : FB w cs W) (hb : Below W.heap.size W W') : FB w cs W' := ⟨(hb.block _ h.2.1).trans h.1, Nat.lt_of_lt_of_le h.2.1 hb.size, bel_then h.2.2 hb⟩
theorem FB.more {w W : World} {cs : Array Value} (h : FB w cs W) (o : Obj) : FB w cs (W.alloc o) := h.next (bel_new (Below.refl _ _) _)

/-- A block that holds these cells. -/
structure RowB (B : Nat) (t : TypeId) (cs : Array Value) (W : World) : Prop where
  blk : W.heap[B]? = some (.cells cs t (0, 0))
theorem RowB.lt {B : Nat} {t : TypeId} {cs : Array Value} {W : World} (h : RowB B t cs W) : B < W.heap.size := (Array.getElem?_eq_some_iff.1 h.blk).1
theorem RowB.below {B : Nat} {t : TypeId} {cs : Array Value} {W W' : World} (h : RowB B t cs W) (hb : Below W.heap.size W W') : RowB B t cs W' := ⟨(hb.block B h.lt).trans h.blk⟩
theorem RowB.cell {B : Nat} {t : TypeId} {cs : Array Value} {W : World} (h : RowB B t cs W) (k : Nat) : W.cell? ⟨B, k, none⟩ = cs[k]? := cell_of_row W B k cs t _ h.blk
theorem RowB.free {B : Nat} {t : TypeId} {cs : Array Value} {W : World} (h : RowB B t cs W) (k : Nat) : W.frozen? ⟨B, k, none⟩ = false := by
  have := h.blk
  simp [World.frozen?, this]
theorem RowB.set {B : Nat} {t : TypeId} {cs : Array Value} {W : World} (h : RowB B t cs W) (k : Nat) (v : Value) : RowB B t (cs.setIfInBounds k v) (W.setCell ⟨B, k, none⟩ v) := by
  have := h.blk
  exact ⟨by simp [World.setCell, Array.getElem?_modify, this]⟩
theorem RowB.new (W : World) (t : TypeId) (cs : Array Value) : RowB W.heap.size t cs (W.alloc (.cells cs t)) := ⟨heap_alloc_new W _⟩
theorem bel_fresh2 {o : Obj} (w : World) : Below w.heap.size w (w.alloc o) := bel_new (Below.refl _ _) o

theorem join4 {g : Nat} {W : World} (s0 s1 s2 s3 : ByteArray) (Y : RowB g 172 #[.string s0, .string s1, .string s2, .string s3] W) (l0 : s0.size ≤ 49) (l1 : s1.size ≤ 49) (l2 : s2.size ≤ 49) (l3 : s3.size ≤ 49) :
    Calls Tryz.prog 156 #[.slice (some ⟨g, 0, none⟩) 4 4, .string ⟨#[44]⟩] W fun e w' => e = .returned (.string ⟨(Lib.join ([s0, s1, s2, s3].map (·.data.toList)) [44]).toArray⟩) ∧ Below W.heap.size W w' := by
  have hl : ∀ s : ByteArray, s.data.toList.length = s.size := fun s => by simp
  exact Tryz.strings_Join g 0 4 [s0, s1, s2, s3] ⟨#[44]⟩ W (fun j s hs => by
    match j, hs with
    | 0, hs => cases hs; exact Y.cell 0
    | 1, hs => cases hs; exact Y.cell 1
    | 2, hs => cases hs; exact Y.cell 2
    | 3, hs => cases hs; exact Y.cell 3
    | j + 4, hs => simp at hs) Y.lt (by simp) (by simp) (by
      have h0 := hl s0
      have h1 := hl s1
      have h2 := hl s2
      have h3 := hl s3
      have e : Lib.join ([s0, s1, s2, s3].map (·.data.toList)) (⟨#[44]⟩ : ByteArray).data.toList = s0.data.toList ++ ([44] ++ (s1.data.toList ++ ([44] ++ (s2.data.toList ++ ([44] ++ s3.data.toList))))) := by simp [Lib.join, List.intercalate, List.intersperse]
      rw [e]
      simp only [List.length_append, List.length_singleton, h0, h1, h2, h3]
      omega)

set_option maxRecDepth 100000 in
set_option maxHeartbeats 4000000 in
theorem textf_any (a0 b0 c0 d0 e0 a1 b1 c1 d1 e1 a2 b2 c2 d2 e2 a3 b3 c3 d3 e3 : Int) (s0 s1 s2 s3 : ByteArray) (w : World)
    (hT0 : ∀ W, Below w.heap.size w W → Calls Tryz.prog 155 #[.agg #[.int .i64 a0, .int .i64 b0, .int .i64 c0, .int .i64 d0, .int .i64 e0]] W fun r w' => r = .returned (.string s0) ∧ Below W.heap.size W w')
    (hT1 : ∀ W, Below w.heap.size w W → Calls Tryz.prog 155 #[.agg #[.int .i64 a1, .int .i64 b1, .int .i64 c1, .int .i64 d1, .int .i64 e1]] W fun r w' => r = .returned (.string s1) ∧ Below W.heap.size W w')
    (hT2 : ∀ W, Below w.heap.size w W → Calls Tryz.prog 155 #[.agg #[.int .i64 a2, .int .i64 b2, .int .i64 c2, .int .i64 d2, .int .i64 e2]] W fun r w' => r = .returned (.string s2) ∧ Below W.heap.size W w')
    (hT3 : ∀ W, Below w.heap.size w W → Calls Tryz.prog 155 #[.agg #[.int .i64 a3, .int .i64 b3, .int .i64 c3, .int .i64 d3, .int .i64 e3]] W fun r w' => r = .returned (.string s3) ∧ Below W.heap.size W w')
    (l0 : s0.size ≤ 49) (l1 : s1.size ≤ 49) (l2 : s2.size ≤ 49) (l3 : s3.size ≤ 49) :
    Calls Tryz.prog 146 #[.agg #[.int .i64 a0, .int .i64 b0, .int .i64 c0, .int .i64 d0, .int .i64 e0, .int .i64 a1, .int .i64 b1, .int .i64 c1, .int .i64 d1, .int .i64 e1, .int .i64 a2, .int .i64 b2, .int .i64 c2, .int .i64 d2, .int .i64 e2, .int .i64 a3, .int .i64 b3, .int .i64 c3, .int .i64 d3, .int .i64 e3]] w fun r w' => r = .returned (.string ⟨(Lib.join ([s0, s1, s2, s3].map (·.data.toList)) [44]).toArray⟩) ∧ Below w.heap.size w w' := by
  have X0 := FB.new w #[.int .i64 a0, .int .i64 b0, .int .i64 c0, .int .i64 d0, .int .i64 e0, .int .i64 a1, .int .i64 b1, .int .i64 c1, .int .i64 d1, .int .i64 e1, .int .i64 a2, .int .i64 b2, .int .i64 c2, .int .i64 d2, .int .i64 e2, .int .i64 a3, .int .i64 b3, .int .i64 c3, .int .i64 d3, .int .i64 e3]
  have hg := (X0.more (.cells #[.string ⟨#[]⟩, .string ⟨#[]⟩, .string ⟨#[]⟩, .string ⟨#[]⟩] 172)).1
  have Y0 := RowB.new (w.alloc (.cells #[.int .i64 a0, .int .i64 b0, .int .i64 c0, .int .i64 d0, .int .i64 e0, .int .i64 a1, .int .i64 b1, .int .i64 c1, .int .i64 d1, .int .i64 e1, .int .i64 a2, .int .i64 b2, .int .i64 c2, .int .i64 d2, .int .i64 e2, .int .i64 a3, .int .i64 b3, .int .i64 c3, .int .i64 d3, .int .i64 e3] 158)) 172 #[.string ⟨#[]⟩, .string ⟨#[]⟩, .string ⟨#[]⟩, .string ⟨#[]⟩]
  have B0 := (X0.more (.cells #[.string ⟨#[]⟩, .string ⟨#[]⟩, .string ⟨#[]⟩, .string ⟨#[]⟩] 172)).2.2
  rw [show (w.alloc (.cells #[.int .i64 a0, .int .i64 b0, .int .i64 c0, .int .i64 d0, .int .i64 e0, .int .i64 a1, .int .i64 b1, .int .i64 c1, .int .i64 d1, .int .i64 e1, .int .i64 a2, .int .i64 b2, .int .i64 c2, .int .i64 d2, .int .i64 e2, .int .i64 a3, .int .i64 b3, .int .i64 c3, .int .i64 d3, .int .i64 e3] 158)).heap.size = w.heap.size + 1 by simp] at Y0
  go_enter Tryz.func146, Tryz.ntmps146
  go_wp2_with (refine wpList_load_row rfl 158 _ rfl w.heap.size rfl 158 #[.int .i64 a0, .int .i64 b0, .int .i64 c0, .int .i64 d0, .int .i64 e0, .int .i64 a1, .int .i64 b1, .int .i64 c1, .int .i64 d1, .int .i64 e1, .int .i64 a2, .int .i64 b2, .int .i64 c2, .int .i64 d2, .int .i64 e2, .int .i64 a3, .int .i64 b3, .int .i64 c3, .int .i64 d3, .int .i64 e3] (0, 0) _ (by assumption) Tryz.underlying158 rfl (info158 _ _ _ _ _ _ _ _ _ _ _ _ _ _ _ _ _ _ _ _) ?_)
  refine wp_loop_rounds 5 ?_
  rw [rounds_succ]
  have D0 := bel_then B0 (bel_fresh2 _ (o := .cells #[.int .i64 a0, .int .i64 b0, .int .i64 c0, .int .i64 d0, .int .i64 e0] 40))
  go_wp2_with (go_at_call 155; refine (hT0 _ D0).mono ?_; rintro r w1 ⟨rfl, hb1⟩; have R0 := (Y0.below (bel_fresh2 _ (o := .cells #[.int .i64 a0, .int .i64 b0, .int .i64 c0, .int .i64 d0, .int .i64 e0] 40))).below hb1; have vc0 := R0.cell 0; have vf0 := R0.free 0)
  have Y1 := R0.set 0 (.string s0)
  have B1 := (bel_then D0 hb1).setCell (p := ⟨w.heap.size + 1, 0, none⟩) (Nat.le_succ _) (.string s0)
  rw [show (#[.string ⟨#[]⟩, .string ⟨#[]⟩, .string ⟨#[]⟩, .string ⟨#[]⟩] : Array Value).setIfInBounds 0 (.string s0) = #[.string s0, .string ⟨#[]⟩, .string ⟨#[]⟩, .string ⟨#[]⟩] from rfl] at Y1
  rw [rounds_succ]
  have D1 := bel_then B1 (bel_fresh2 _ (o := .cells #[.int .i64 a1, .int .i64 b1, .int .i64 c1, .int .i64 d1, .int .i64 e1] 40))
  go_wp2_with (go_at_call 155; refine (hT1 _ D1).mono ?_; rintro r w2 ⟨rfl, hb2⟩; have R1 := (Y1.below (bel_fresh2 _ (o := .cells #[.int .i64 a1, .int .i64 b1, .int .i64 c1, .int .i64 d1, .int .i64 e1] 40))).below hb2; have vc1 := R1.cell 1; have vf1 := R1.free 1)
  have Y2 := R1.set 1 (.string s1)
  have B2 := (bel_then D1 hb2).setCell (p := ⟨w.heap.size + 1, 1, none⟩) (Nat.le_succ _) (.string s1)
  rw [show (#[.string s0, .string ⟨#[]⟩, .string ⟨#[]⟩, .string ⟨#[]⟩] : Array Value).setIfInBounds 1 (.string s1) = #[.string s0, .string s1, .string ⟨#[]⟩, .string ⟨#[]⟩] from rfl] at Y2
  rw [rounds_succ]
  have D2 := bel_then B2 (bel_fresh2 _ (o := .cells #[.int .i64 a2, .int .i64 b2, .int .i64 c2, .int .i64 d2, .int .i64 e2] 40))
  go_wp2_with (go_at_call 155; refine (hT2 _ D2).mono ?_; rintro r w3 ⟨rfl, hb3⟩; have R2 := (Y2.below (bel_fresh2 _ (o := .cells #[.int .i64 a2, .int .i64 b2, .int .i64 c2, .int .i64 d2, .int .i64 e2] 40))).below hb3; have vc2 := R2.cell 2; have vf2 := R2.free 2)
  have Y3 := R2.set 2 (.string s2)
  have B3 := (bel_then D2 hb3).setCell (p := ⟨w.heap.size + 1, 2, none⟩) (Nat.le_succ _) (.string s2)
  rw [show (#[.string s0, .string s1, .string ⟨#[]⟩, .string ⟨#[]⟩] : Array Value).setIfInBounds 2 (.string s2) = #[.string s0, .string s1, .string s2, .string ⟨#[]⟩] from rfl] at Y3
  rw [rounds_succ]
  have D3 := bel_then B3 (bel_fresh2 _ (o := .cells #[.int .i64 a3, .int .i64 b3, .int .i64 c3, .int .i64 d3, .int .i64 e3] 40))
  go_wp2_with (go_at_call 155; refine (hT3 _ D3).mono ?_; rintro r w4 ⟨rfl, hb4⟩; have R3 := (Y3.below (bel_fresh2 _ (o := .cells #[.int .i64 a3, .int .i64 b3, .int .i64 c3, .int .i64 d3, .int .i64 e3] 40))).below hb4; have vc3 := R3.cell 3; have vf3 := R3.free 3)
  have Y4 := R3.set 3 (.string s3)
  have B4 := (bel_then D3 hb4).setCell (p := ⟨w.heap.size + 1, 3, none⟩) (Nat.le_succ _) (.string s3)
  rw [show (#[.string s0, .string s1, .string s2, .string ⟨#[]⟩] : Array Value).setIfInBounds 3 (.string s3) = #[.string s0, .string s1, .string s2, .string s3] from rfl] at Y4
  rw [rounds_succ]
  have hJ := join4 s0 s1 s2 s3 Y4 l0 l1 l2 l3
  go_wp2_with (go_at_call 156; refine hJ.mono ?_; rintro r w5 ⟨rfl, hb5⟩)
  go_ret
  exact ⟨rfl, bel_then B4 hb5⟩
end Go.Proofs.YtjmfefaoenmppaaGreatDoor.Fx

namespace Go.Proofs.YtjmfefaoenmppaaGreatDoor.Fx
open Go.RowKit

/-- A whole array into the block that was made last, at the list of a plain region's operations. -/
theorem wpList_store_new {P : Program} {ops : Array Oper} {rest : List Oper} {op : Oper} {a : Act} {Q : Exit → Act → World → Prop} (hgd : op.guard = none) (ty : TypeId) (x y : Operand) (ho : op.op = .store ty x y)
    (w : World) (c c' : Array Value) (hx : a.eval x = .pointer (some ⟨w.heap.size, 0, none⟩)) (hy : a.eval y = .agg c') (hi : (P.info? ty).map (·.size) = some c'.size) (hs : c.size = c'.size) (h1 : c'.all (·.oneCell') = true)
    (h : wpList P ops Q rest (a.put op.dst undef) (w.alloc (.cells c' ty))) : wpList P ops Q (op :: rest) a (w.alloc (.cells c ty)) :=
  wpList_plain hgd fun K hK => by
    unfold Oper.wp execOp
    simp only [ho, hx, hy, run_storeAt_new w ty c c' hi hs h1, Sem.run_bind, Result.andThen_ok]
    exact hK _ _ h

theorem one67 (a0 b0 c0 d0 e0 a1 b1 c1 d1 e1 a2 b2 c2 d2 e2 a3 b3 c3 d3 e3 : Int) : (#[.int .i64 a0, .int .i64 b0, .int .i64 c0, .int .i64 d0, .int .i64 e0, .int .i64 a1, .int .i64 b1, .int .i64 c1, .int .i64 d1, .int .i64 e1, .int .i64 a2, .int .i64 b2, .int .i64 c2, .int .i64 d2, .int .i64 e2, .int .i64 a3, .int .i64 b3, .int .i64 c3, .int .i64 d3, .int .i64 e3] : Array Value).all (·.oneCell') = true := by simp [Value.oneCell']

end Go.Proofs.YtjmfefaoenmppaaGreatDoor.Fx

namespace Go.Proofs.YtjmfefaoenmppaaGreatDoor.Fx
open Go.RowKit

theorem inum_yes (p : ByteArray) (W : World) (hp : p.size ≤ 1048576) (hE : Env W) (h : isNum p = true) : Calls Tryz.prog 161 #[.string p] W fun e w' => e = .returned (.tuple #[.int .i64 (numV p), .bool true]) ∧ Below W.heap.size W w' :=
  (impl_numget p W (by omega) hE.1 hE.2.1).mono fun e w' ⟨e1, e2⟩ => ⟨by rw [e1]; unfold isNum at h; rw [h]; rfl, e2⟩
theorem inum_no (p : ByteArray) (W : World) (hp : p.size ≤ 1048576) (hE : Env W) (h : ¬ isNum p = true) : Calls Tryz.prog 161 #[.string p] W fun e w' => e = .returned (.tuple #[.int .i64 (numV p), .bool false]) ∧ Below W.heap.size W w' :=
  (impl_numget p W (by omega) hE.1 hE.2.1).mono fun e w' ⟨e1, e2⟩ => ⟨by
    have h2 : (numG p.data.toList).2 = false := by simpa [isNum] using h
    rw [e1, h2]
    rfl, e2⟩
/-- The array behind j numbers. -/
def soFar (ps : List ByteArray) (j : Nat) : Nat → Int := fun k => if k < j then numV (ps.getD k ⟨#[]⟩) else 0
theorem soFar_set (ps : List ByteArray) (j : Nat) (p : ByteArray) (hj : j < ps.length) (hp : p = ps[j]) : soFar ps (j + 1) j = numV p ∧ ∀ i, i ≠ j → soFar ps (j + 1) i = soFar ps j i := by
  refine ⟨?_, fun i hi => ?_⟩
  · unfold soFar
    rw [if_pos (by omega), hp, List.getD_eq_getElem?_getD, List.getElem?_eq_getElem hj]
    rfl
  · unfold soFar
    by_cases h : i < j
    · rw [if_pos h, if_pos (by omega)]
    · rw [if_neg h, if_neg (by omega)]

set_option maxRecDepth 100000 in
set_option maxHeartbeats 2000000 in
theorem impl_parts (s : ByteArray) (w : World) (hs : s.size ≤ 1048576) (hE : Env w) :
    Calls Tryz.prog 151 #[.string s] w fun e w' => e = .returned (.tuple #[(parts s).1.val, .bool (parts s).2]) ∧ Below w.heap.size w w' := by
  have hC := fun W (hM : MaxL W) => splitN_any s 46 6 W hs hM (by decide) (by decide)
  rw [show ((6 : Nat) : Int) = 6 from rfl] at hC
  have hone := split_one 46 5 s (by decide)
  obtain ⟨qs, hqs⟩ : ∃ qs, qs = Lib.splitB ⟨#[46]⟩ 0 (min 6 (s.size + 1) - 1) s := ⟨_, rfl⟩
  rw [← hqs] at hC
  rw [show (5 : Nat) + 1 = 6 from rfl, ← hqs] at hone
  have hsz := cutsB_short 46 s
  have hpn := @parts_no s
  have hpy := @parts_yes s
  obtain ⟨ps, hps⟩ : ∃ ps, ps = cutsB 46 s := ⟨_, rfl⟩
  rw [← hps] at hone hsz hpn hpy
  obtain ⟨r, hr⟩ : ∃ r, r = parts s := ⟨_, rfl⟩
  rw [← hr] at hpn hpy ⊢
  clear hps hr hqs
  rcases hone with ⟨h5, rfl⟩ | ⟨h5, h5q⟩
  · have hq5 : ((qs.length : Int) != 5) = false := by rw [h5]; rfl
    go_enter Tryz.func151, Tryz.ntmps151
    go_wp2_with (go_at_call 135; refine (hC _ (hE.2.2.below (bel_fresh w))).mono ?_; rintro e w1 ⟨g, cp, rfl, hA, hb⟩; refine Hid.out ?_)
    refine Lib.hid ?_
    have Z := RBox.new hb
    have hbw : Below w.heap.size w w1 := bel_then (bel_fresh w) hb
    have hg1 : g < w1.heap.size := by
      obtain ⟨b, off, e, hlt, _⟩ := hA (by omega)
      cases e
      exact hlt
    have V := Vec.new w1
    have hbv := bel_then hbw (bel_fresh w1 (o := .cells #[.int .i64 0, .int .i64 0, .int .i64 0, .int .i64 0, .int .i64 0] 177))
    have Zv := Z.next (bel_fresh w1 (o := .cells #[.int .i64 0, .int .i64 0, .int .i64 0, .int .i64 0, .int .i64 0] 177))
    have hAv := hA.below (bel_fresh w1 (o := .cells #[.int .i64 0, .int .i64 0, .int .i64 0, .int .i64 0, .int .i64 0] 177))
    have zw := Z.lt
    have s0 := hbw.size
    clear hb hC hA Z
    go_wp2_with fail
    go_loopg [18] 5 (fun gh i wr => ∃ (j : Nat), gh = 5 - j ∧ j ≤ 5 ∧ i = .int .i64 j ∧ (∀ k (hk : k < qs.length), k < j → isNum qs[k] = true) ∧ Vec w1.heap.size (soFar qs j) wr ∧ RBox w.heap.size wr ∧ StrsAt wr (some ⟨g, 0, none⟩) qs ∧ Below w.heap.size w wr)
    case atStart => exact ⟨0, by omega, by omega, rfl, by omega, V, Zv, hAv, hbv⟩
    case round =>
      clear V Zv hAv hbv hbw
      obtain ⟨j, hg, hj, rfl, hnum, V, Z, hA, hb⟩ := hrel
      have HG := Lib.hid hg
      clear hg
      have s1 := hb.size
      have vl := V.lt
      by_cases hlt : j < 5
      · have hlt' : (j : Int) < 5 := by omega
        obtain ⟨b9, off9, e9, hlb, hc9⟩ := hA (by omega)
        obtain ⟨rfl, rfl⟩ : b9 = g ∧ off9 = 0 := by cases e9; exact ⟨rfl, rfl⟩
        have hck := hc9 j (by omega)
        rw [Nat.zero_add] at hck
        have hpj := hsz qs[j] (List.getElem_mem _)
        have hjp : j < qs.length := by omega
        by_cases hn : isNum qs[j] = true
        · have hN1 := inum_yes qs[j] wr (by omega) (hE.at hb) hn
          have HN : Hid (∀ k (hk : k < qs.length), k < j + 1 → isNum qs[k] = true) := Lib.hid (fun k hk hkj => by
            by_cases e : k = j
            · subst e; exact hn
            · exact hnum k hk (by omega))
          obtain ⟨p, hp⟩ : ∃ p, p = qs[j] := ⟨_, rfl⟩
          rw [← hp] at hN1 hck
          have HP := Lib.hid (soFar_set qs j p hjp hp)
          clear hpj hn hnum hp hc9 hpn hpy hsz e9
          go_wp2_with (go_at_call 161; refine hN1.mono ?_; rintro e w2 ⟨rfl, hb2⟩; have V2 := V.next hb2; have vc := V2.cell j hlt; have vf := V2.free j; have vl2 := V2.lt)
          have V3 := V2.set j (numV p) hlt HP.out.1 HP.out.2
          have Z3 := (Z.next hb2).set (B := w1.heap.size) (k := j) (by omega) (.int .i64 (numV p))
          have A3 := (hA.below hb2).set (B := w1.heap.size) (k := j) (by omega) (.int .i64 (numV p))
          have B3 := (bel_then hb hb2).setCell (p := ⟨w1.heap.size, j, none⟩) s0 (.int .i64 (numV p))
          clear V V2 Z hA hb hb2 vc vf hck hN1
          go_roundg (5 - (j + 1))
          case measure => have := HG.out; omega
          case rel => exact ⟨j + 1, rfl, by omega, by go_num, HN.out, V3, Z3, A3, B3⟩
        · have hN1 := inum_no qs[j] wr (by omega) (hE.at hb) hn
          have hv : r = (.zero, false) := hpn (fun h => hn (h.2 _ (List.getElem_mem hjp)))
          subst hv
          obtain ⟨p, hp⟩ : ∃ p, p = qs[j] := ⟨_, rfl⟩
          rw [← hp] at hN1 hck
          clear hpj hn hnum hp hc9 hpn hpy hsz e9
          go_wp2_with (go_at_call 161; refine hN1.mono ?_; rintro e w2 ⟨rfl, hb2⟩; have Z2 := Z.next hb2; have z0 := Z2.cell 0 (by decide); have z1 := Z2.cell 1 (by decide); have z2 := Z2.cell 2 (by decide); have z3 := Z2.cell 3 (by decide); have z4 := Z2.cell 4 (by decide); have f0 := Z2.free 0; have f1 := Z2.free 1; have f2 := Z2.free 2; have f3 := Z2.free 3; have f4 := Z2.free 4)
          refine bodyPost_ret (v := .tuple #[P5.zero.val, .bool false]) ?_ rfl ⟨rfl, bel_five (bel_then hb hb2) _ (Nat.le_refl _) _ _ _ _ _⟩
          rw [results_cell_tmp rfl]
          go_simp
          rfl
      · obtain rfl : j = 5 := by omega
        have hv := hpy h5 (nums_all fun k hk => hnum k hk (by omega))
        subst hv
        have c0 := V.cell 0 (by decide)
        have c1 := V.cell 1 (by decide)
        have c2 := V.cell 2 (by decide)
        have c3 := V.cell 3 (by decide)
        have c4 := V.cell 4 (by decide)
        rw [show soFar qs 5 0 = (five qs).a from rfl] at c0
        rw [show soFar qs 5 1 = (five qs).b from rfl] at c1
        rw [show soFar qs 5 2 = (five qs).c from rfl] at c2
        rw [show soFar qs 5 3 = (five qs).d from rfl] at c3
        rw [show soFar qs 5 4 = (five qs).e from rfl] at c4
        obtain ⟨a, b, c, d, e, hq⟩ : ∃ a b c d e, five qs = ⟨a, b, c, d, e⟩ := ⟨_, _, _, _, _, rfl⟩
        rw [hq] at c0 c1 c2 c3 c4
        have HQ := Lib.hid hq
        have z0 := Z.cell 0 (by decide)
        have z1 := Z.cell 1 (by decide)
        have z2 := Z.cell 2 (by decide)
        have z3 := Z.cell 3 (by decide)
        have z4 := Z.cell 4 (by decide)
        have f0 := Z.free 0
        have f1 := Z.free 1
        have f2 := Z.free 2
        have f3 := Z.free 3
        have f4 := Z.free 4
        clear hnum hpn hq
        go_wp2_with fail
        refine bodyPost_ret (v := .tuple #[P5.val ⟨a, b, c, d, e⟩, .bool true]) ?_ rfl ⟨by rw [HQ.out], bel_five hb _ (Nat.le_refl _) _ _ _ _ _⟩
        rw [results_cell_tmp rfl]
        go_simp
        rfl
  · have hv : r = (.zero, false) := hpn (fun h => h5 h.1)
    have hq5 : ((qs.length : Int) != 5) = true := by rw [bne_iff_ne]; omega
    rw [hv]
    clear hv h5 h5q hpn hpy hsz
    go_enter Tryz.func151, Tryz.ntmps151
    go_wp2_with (go_at_call 135; refine (hC _ (hE.2.2.below (bel_fresh w))).mono ?_; rintro e w1 ⟨g, cp, rfl, hA, hb⟩; have Z := RBox.new hb; have z0 := Z.cell 0 (by decide); have z1 := Z.cell 1 (by decide); have z2 := Z.cell 2 (by decide); have z3 := Z.cell 3 (by decide); have z4 := Z.cell 4 (by decide); have f0 := Z.free 0; have f1 := Z.free 1; have f2 := Z.free 2; have f3 := Z.free 3; have f4 := Z.free 4)
    refine bodyPost_ret (v := .tuple #[P5.zero.val, .bool false]) ?_ rfl ⟨rfl, bel_five (bel_then (bel_fresh w) hb) _ (Nat.le_refl _) _ _ _ _ _⟩
    rw [results_cell_tmp rfl]
    go_simp
    rfl

set_option maxRecDepth 100000 in
set_option maxHeartbeats 2000000 in
theorem impl_pget (s : ByteArray) (w : World) (hs : s.size ≤ 1048576) (hE : Env w) :
    Calls Tryz.prog 136 #[.string s] w fun e w' => e = .returned (.tuple #[(ptrG s).1.val, .bool (ptrG s).2]) ∧ Below w.heap.size w w' := by
  by_cases h1 : s = ⟨#[45]⟩
  · subst h1
    rw [ptrG_hole]
    go_enter Tryz.func136, Tryz.ntmps136
    go_wp2
    refine bodyPost_ret (v := .tuple #[P5.zero.val, .bool true]) ?_ rfl ⟨rfl, (by repeat' (first | exact Below.refl _ _ | refine bel_new ?_ _ | refine Below.drew ?_))⟩
    rw [results_cell_tmp rfl]
    go_simp
    rfl
  · have hq0 := str45 h1
    have hP := impl_parts s (w.alloc (.cells #[.int .i64 0, .int .i64 0, .int .i64 0, .int .i64 0, .int .i64 0] 40)) hs (hE.at (bel_fresh w))
    have hno := @ptrG_no s h1
    have hbad := @ptrG_bad s h1
    have hzero := @ptrG_zero s h1
    have hyes := @ptrG_yes s h1
    obtain ⟨r, hr⟩ : ∃ r, r = ptrG s := ⟨_, rfl⟩
    rw [← hr] at hno hbad hzero hyes ⊢
    obtain ⟨⟨⟨a, b, c, d, e⟩, o⟩, hq⟩ : ∃ q, q = parts s := ⟨_, rfl⟩
    rw [← hq] at hP hno hbad hzero hyes
    have hO : ∀ W, Calls Tryz.prog 78 #[.agg #[.int .i64 a, .int .i64 b, .int .i64 c, .int .i64 d, .int .i64 e]] W fun r w' => r = .returned (.bool (isOk a b c d e)) ∧ Below W.heap.size W w' := fun W => (m_ok a b c d e W).mono fun r w' ⟨h1, h2⟩ => ⟨h1, h2 ▸ bel_new (bel_new (Below.refl _ _) _) _⟩
    have hM : ∀ W, Calls Tryz.prog 68 #[.agg #[.int .i64 a, .int .i64 b, .int .i64 c, .int .i64 d, .int .i64 e]] W fun r w' => r = .returned (.bool (isHole a b c d e)) ∧ Below W.heap.size W w' := fun W => (m_hole a b c d e W).mono fun r w' ⟨h1, h2⟩ => ⟨h1, h2 ▸ bel_new (Below.refl _ _) _⟩
    have hP2 : Calls Tryz.prog 151 #[.string s] (w.alloc (.cells #[.int .i64 0, .int .i64 0, .int .i64 0, .int .i64 0, .int .i64 0] 40)) fun e' w' => e' = .returned (.tuple #[.agg #[.int .i64 a, .int .i64 b, .int .i64 c, .int .i64 d, .int .i64 e], .bool o]) ∧ Below (w.alloc (.cells #[.int .i64 0, .int .i64 0, .int .i64 0, .int .i64 0, .int .i64 0] 40)).heap.size (w.alloc (.cells #[.int .i64 0, .int .i64 0, .int .i64 0, .int .i64 0, .int .i64 0] 40)) w' := hP
    clear h1 hr hq hE hP
    cases o
    · have hv : r = (.zero, false) := hno rfl
      subst hv
      clear hno hbad hzero hyes
      go_enter Tryz.func136, Tryz.ntmps136
      go_wp2_with (first | (go_at_call 151; refine hP2.mono ?_; rintro e w1 ⟨rfl, hb⟩; have hbw := bel_then (bel_fresh w) hb; have H9 := HP.new w1 a b c d e 40; have yb := H9.2.2.2.2.2.2; have Z := RBox.new hb; have Z1 := Z.next H9.2.2.2.2.2.2; have z0 := Z1.cell 0 (by decide); have z1 := Z1.cell 1 (by decide); have z2 := Z1.cell 2 (by decide); have z3 := Z1.cell 3 (by decide); have z4 := Z1.cell 4 (by decide); have f0 := Z1.free 0; have f1 := Z1.free 1; have f2 := Z1.free 2; have f3 := Z1.free 3; have f4 := Z1.free 4) | (go_at_call 78; refine (hO _).mono ?_; rintro e w5 ⟨rfl, hb5⟩; have H5 := H9.next hb5; obtain ⟨y0, y1, y2, y3, y4, yl, yb⟩ := id H5; have Z5 := Z.next H5.2.2.2.2.2.2; have z0 := Z5.cell 0 (by decide); have z1 := Z5.cell 1 (by decide); have z2 := Z5.cell 2 (by decide); have z3 := Z5.cell 3 (by decide); have z4 := Z5.cell 4 (by decide); have f0 := Z5.free 0; have f1 := Z5.free 1; have f2 := Z5.free 2; have f3 := Z5.free 3; have f4 := Z5.free 4) | (go_at_call 68; refine (hM _).mono ?_; rintro e w6 ⟨rfl, hb6⟩; have H6 := H5.next hb6; obtain ⟨y0, y1, y2, y3, y4, yl, yb⟩ := id H6; have Z6 := Z.next H6.2.2.2.2.2.2; have z0 := Z6.cell 0 (by decide); have z1 := Z6.cell 1 (by decide); have z2 := Z6.cell 2 (by decide); have z3 := Z6.cell 3 (by decide); have z4 := Z6.cell 4 (by decide); have f0 := Z6.free 0; have f1 := Z6.free 1; have f2 := Z6.free 2; have f3 := Z6.free 3; have f4 := Z6.free 4))
      refine bodyPost_ret (v := .tuple #[P5.zero.val, .bool false]) ?_ rfl ⟨rfl, bel_five (bel_then hbw yb) _ (Nat.le_refl _) _ _ _ _ _⟩
      rw [results_cell_tmp rfl]
      go_simp
      rfl
    · by_cases hk : isOk a b c d e = true
      · by_cases hh : isHole a b c d e = true
        · have hv : r = (.zero, false) := hzero hh
          subst hv
          rw [hk] at hO
          rw [hh] at hM
          clear hk hh hno hbad hzero hyes
          go_enter Tryz.func136, Tryz.ntmps136
          go_wp2_with (first | (go_at_call 151; refine hP2.mono ?_; rintro e w1 ⟨rfl, hb⟩; have hbw := bel_then (bel_fresh w) hb; have H9 := HP.new w1 a b c d e 40; have yb := H9.2.2.2.2.2.2; have Z := RBox.new hb; have Z1 := Z.next H9.2.2.2.2.2.2; have z0 := Z1.cell 0 (by decide); have z1 := Z1.cell 1 (by decide); have z2 := Z1.cell 2 (by decide); have z3 := Z1.cell 3 (by decide); have z4 := Z1.cell 4 (by decide); have f0 := Z1.free 0; have f1 := Z1.free 1; have f2 := Z1.free 2; have f3 := Z1.free 3; have f4 := Z1.free 4) | (go_at_call 78; refine (hO _).mono ?_; rintro e w5 ⟨rfl, hb5⟩; have H5 := H9.next hb5; obtain ⟨y0, y1, y2, y3, y4, yl, yb⟩ := id H5; have Z5 := Z.next H5.2.2.2.2.2.2; have z0 := Z5.cell 0 (by decide); have z1 := Z5.cell 1 (by decide); have z2 := Z5.cell 2 (by decide); have z3 := Z5.cell 3 (by decide); have z4 := Z5.cell 4 (by decide); have f0 := Z5.free 0; have f1 := Z5.free 1; have f2 := Z5.free 2; have f3 := Z5.free 3; have f4 := Z5.free 4) | (go_at_call 68; refine (hM _).mono ?_; rintro e w6 ⟨rfl, hb6⟩; have H6 := H5.next hb6; obtain ⟨y0, y1, y2, y3, y4, yl, yb⟩ := id H6; have Z6 := Z.next H6.2.2.2.2.2.2; have z0 := Z6.cell 0 (by decide); have z1 := Z6.cell 1 (by decide); have z2 := Z6.cell 2 (by decide); have z3 := Z6.cell 3 (by decide); have z4 := Z6.cell 4 (by decide); have f0 := Z6.free 0; have f1 := Z6.free 1; have f2 := Z6.free 2; have f3 := Z6.free 3; have f4 := Z6.free 4))
          refine bodyPost_ret (v := .tuple #[P5.zero.val, .bool false]) ?_ rfl ⟨rfl, bel_five (bel_then hbw yb) _ (Nat.le_refl _) _ _ _ _ _⟩
          rw [results_cell_tmp rfl]
          go_simp
          rfl
        · have hh' : isHole a b c d e = false := by simpa using hh
          have hv : r = (⟨a, b, c, d, e⟩, true) := hyes rfl hk hh'
          subst hv
          rw [hk] at hO
          rw [hh'] at hM
          clear hk hh hh' hno hbad hzero hyes
          go_enter Tryz.func136, Tryz.ntmps136
          go_wp2_with (first | (go_at_call 151; refine hP2.mono ?_; rintro e w1 ⟨rfl, hb⟩; have hbw := bel_then (bel_fresh w) hb; have H9 := HP.new w1 a b c d e 40; have yb := H9.2.2.2.2.2.2; have Z := RBox.new hb; have Z1 := Z.next H9.2.2.2.2.2.2; have z0 := Z1.cell 0 (by decide); have z1 := Z1.cell 1 (by decide); have z2 := Z1.cell 2 (by decide); have z3 := Z1.cell 3 (by decide); have z4 := Z1.cell 4 (by decide); have f0 := Z1.free 0; have f1 := Z1.free 1; have f2 := Z1.free 2; have f3 := Z1.free 3; have f4 := Z1.free 4) | (go_at_call 78; refine (hO _).mono ?_; rintro e w5 ⟨rfl, hb5⟩; have H5 := H9.next hb5; obtain ⟨y0, y1, y2, y3, y4, yl, yb⟩ := id H5; have Z5 := Z.next H5.2.2.2.2.2.2; have z0 := Z5.cell 0 (by decide); have z1 := Z5.cell 1 (by decide); have z2 := Z5.cell 2 (by decide); have z3 := Z5.cell 3 (by decide); have z4 := Z5.cell 4 (by decide); have f0 := Z5.free 0; have f1 := Z5.free 1; have f2 := Z5.free 2; have f3 := Z5.free 3; have f4 := Z5.free 4) | (go_at_call 68; refine (hM _).mono ?_; rintro e w6 ⟨rfl, hb6⟩; have H6 := H5.next hb6; obtain ⟨y0, y1, y2, y3, y4, yl, yb⟩ := id H6; have Z6 := Z.next H6.2.2.2.2.2.2; have z0 := Z6.cell 0 (by decide); have z1 := Z6.cell 1 (by decide); have z2 := Z6.cell 2 (by decide); have z3 := Z6.cell 3 (by decide); have z4 := Z6.cell 4 (by decide); have f0 := Z6.free 0; have f1 := Z6.free 1; have f2 := Z6.free 2; have f3 := Z6.free 3; have f4 := Z6.free 4))
          refine bodyPost_ret (v := .tuple #[P5.val ⟨a, b, c, d, e⟩, .bool true]) ?_ rfl ⟨rfl, bel_five (bel_then hbw yb) _ (Nat.le_refl _) _ _ _ _ _⟩
          rw [results_cell_tmp rfl]
          go_simp
          rfl
      · have hk' : isOk a b c d e = false := by simpa using hk
        have hv : r = (.zero, false) := hbad hk'
        subst hv
        rw [hk'] at hO
        clear hk hk' hno hbad hzero hyes
        go_enter Tryz.func136, Tryz.ntmps136
        go_wp2_with (first | (go_at_call 151; refine hP2.mono ?_; rintro e w1 ⟨rfl, hb⟩; have hbw := bel_then (bel_fresh w) hb; have H9 := HP.new w1 a b c d e 40; have yb := H9.2.2.2.2.2.2; have Z := RBox.new hb; have Z1 := Z.next H9.2.2.2.2.2.2; have z0 := Z1.cell 0 (by decide); have z1 := Z1.cell 1 (by decide); have z2 := Z1.cell 2 (by decide); have z3 := Z1.cell 3 (by decide); have z4 := Z1.cell 4 (by decide); have f0 := Z1.free 0; have f1 := Z1.free 1; have f2 := Z1.free 2; have f3 := Z1.free 3; have f4 := Z1.free 4) | (go_at_call 78; refine (hO _).mono ?_; rintro e w5 ⟨rfl, hb5⟩; have H5 := H9.next hb5; obtain ⟨y0, y1, y2, y3, y4, yl, yb⟩ := id H5; have Z5 := Z.next H5.2.2.2.2.2.2; have z0 := Z5.cell 0 (by decide); have z1 := Z5.cell 1 (by decide); have z2 := Z5.cell 2 (by decide); have z3 := Z5.cell 3 (by decide); have z4 := Z5.cell 4 (by decide); have f0 := Z5.free 0; have f1 := Z5.free 1; have f2 := Z5.free 2; have f3 := Z5.free 3; have f4 := Z5.free 4) | (go_at_call 68; refine (hM _).mono ?_; rintro e w6 ⟨rfl, hb6⟩; have H6 := H5.next hb6; obtain ⟨y0, y1, y2, y3, y4, yl, yb⟩ := id H6; have Z6 := Z.next H6.2.2.2.2.2.2; have z0 := Z6.cell 0 (by decide); have z1 := Z6.cell 1 (by decide); have z2 := Z6.cell 2 (by decide); have z3 := Z6.cell 3 (by decide); have z4 := Z6.cell 4 (by decide); have f0 := Z6.free 0; have f1 := Z6.free 1; have f2 := Z6.free 2; have f3 := Z6.free 3; have f4 := Z6.free 4))
        refine bodyPost_ret (v := .tuple #[P5.zero.val, .bool false]) ?_ rfl ⟨rfl, bel_five (bel_then hbw yb) _ (Nat.le_refl _) _ _ _ _ _⟩
        rw [results_cell_tmp rfl]
        go_simp
        rfl

end Go.Proofs.YtjmfefaoenmppaaGreatDoor.Fx

namespace Go.Proofs.YtjmfefaoenmppaaGreatDoor.Fx
open Go.RowKit

theorem dot_split : ∀ (l m x y : List UInt8), digs l → digs m → l ++ 46 :: x = m ++ 46 :: y → l = m ∧ x = y
  | [], [], _, _, _, _, h => by simpa using h
  | [], c :: m, x, y, _, hm, h => by
    simp only [List.nil_append, List.cons_append, List.cons.injEq] at h
    have hc := hm c (by simp)
    rw [← h.1] at hc
    exact absurd hc (by decide)
  | c :: l, [], x, y, hl, _, h => by
    simp only [List.nil_append, List.cons_append, List.cons.injEq] at h
    have hc := hl c (by simp)
    rw [h.1] at hc
    exact absurd hc (by decide)
  | c :: l, d :: m, x, y, hl, hm, h => by
    simp only [List.cons_append, List.cons.injEq] at h
    obtain ⟨h1, h2⟩ := dot_split l m x y (fun a ha => hl a (by simp [ha])) (fun a ha => hm a (by simp [ha])) h.2
    exact ⟨by rw [h.1, h1], h2⟩
theorem joinB_flat (p q r s t : List UInt8) : joinB p q r s t = p ++ 46 :: (q ++ 46 :: (r ++ 46 :: (s ++ 46 :: t))) := by simp [joinB]
theorem joinB_inj {p q r s t p' q' r' s' t' : List UInt8} (hp : digs p) (hq : digs q) (hr : digs r) (hs : digs s) (hp' : digs p') (hq' : digs q') (hr' : digs r') (hs' : digs s') (h : joinB p q r s t = joinB p' q' r' s' t') :
    p = p' ∧ q = q' ∧ r = r' ∧ s = s' ∧ t = t' := by
  rw [joinB_flat, joinB_flat] at h
  obtain ⟨h1, h⟩ := dot_split _ _ _ _ hp hp' h
  obtain ⟨h2, h⟩ := dot_split _ _ _ _ hq hq' h
  obtain ⟨h3, h⟩ := dot_split _ _ _ _ hr hr' h
  obtain ⟨h4, h⟩ := dot_split _ _ _ _ hs hs' h
  exact ⟨h1, h2, h3, h4, h⟩
theorem dec_inj {x y : Int} (hx : 0 ≤ x) (hy : 0 ≤ y) (h : Lib.decDigits x.toNat = Lib.decDigits y.toNat) : x = y := by
  have h1 := (dec_digs x.toNat).2.1
  have h2 := (dec_digs y.toNat).2.1
  rw [h, h2] at h1
  omega

/-- What is written of a valid pointer: the sign of a hole, or five numbers. -/
theorem putT_ok {a b c d e : Int} (h : isOk a b c d e = true) :
    (isHole a b c d e = true ∧ putT a b c d e = [45]) ∨ (isHole a b c d e = false ∧ inAll a b c d e ∧ putT a b c d e = joinB (Lib.decDigits a.toNat) (Lib.decDigits b.toNat) (Lib.decDigits c.toNat) (Lib.decDigits d.toNat) (Lib.decDigits e.toNat)) := by
  by_cases hh : isHole a b c d e = true
  · exact .inl ⟨hh, by unfold putT; rw [if_pos h, if_pos hh]⟩
  · have hi : inAll a b c d e := by rw [isOk_inAll] at h; simpa [hh] using h
    refine .inr ⟨by simpa using hh, hi, ?_⟩
    unfold putT
    obtain ⟨h1, h2, h3, h4, h5⟩ := hi
    rw [if_pos h, if_neg hh, num_is a (by omega) (by omega), num_is b (by omega) (by omega), num_is c (by omega) (by omega), num_is d (by omega) (by omega), num_is e (by omega) (by omega)]
theorem putT_no {a b c d e : Int} (h : isOk a b c d e = false) : putT a b c d e = [] := by unfold putT; rw [if_neg (by rw [h]; exact Bool.false_ne_true)]
theorem putT_ne {a b c d e : Int} (h : isOk a b c d e = true) : putT a b c d e ≠ [] := by
  rcases putT_ok h with ⟨_, h⟩ | ⟨_, _, h⟩ <;> rw [h] <;> simp [joinB]
theorem hole_zero {a b c d e : Int} (h : isHole a b c d e = true) : a = 0 ∧ b = 0 ∧ c = 0 ∧ d = 0 ∧ e = 0 := by
  unfold isHole same at h
  simpa [and_assoc] using h
theorem putT_inj {a b c d e a' b' c' d' e' : Int} (h : isOk a b c d e = true) (ht : putT a b c d e = putT a' b' c' d' e') : same a b c d e a' b' c' d' e' = true := by
  have h' : isOk a' b' c' d' e' = true := by
    cases hk : isOk a' b' c' d' e' with
    | true => rfl
    | false => exact absurd (ht.trans (putT_no hk)) (putT_ne h)
  have hdash : ∀ (p q r s t : List UInt8), digs p → p ≠ [] → [45] ≠ joinB p q r s t := by
    intro p q r s t hp hne e
    cases p with
    | nil => exact hne rfl
    | cons x p =>
      rw [joinB_flat, List.cons_append, List.cons.injEq] at e
      have := hp x (by simp)
      rw [← e.1] at this
      exact absurd this (by decide)
  rcases putT_ok h with ⟨h1, h2⟩ | ⟨_, h1, h2⟩ <;> rcases putT_ok h' with ⟨h3, h4⟩ | ⟨_, h3, h4⟩
  · obtain ⟨rfl, rfl, rfl, rfl, rfl⟩ := hole_zero h1
    obtain ⟨rfl, rfl, rfl, rfl, rfl⟩ := hole_zero h3
    rfl
  · rw [h2, h4] at ht
    exact absurd ht (hdash _ _ _ _ _ (dec_digs _).1 (dec_digs _).2.2)
  · rw [h2, h4] at ht
    exact absurd ht.symm (hdash _ _ _ _ _ (dec_digs _).1 (dec_digs _).2.2)
  · rw [h2, h4] at ht
    obtain ⟨i1, i2, i3, i4, i5⟩ := joinB_inj (dec_digs _).1 (dec_digs _).1 (dec_digs _).1 (dec_digs _).1 (dec_digs _).1 (dec_digs _).1 (dec_digs _).1 (dec_digs _).1 ht
    obtain ⟨p1, p2, p3, p4, p5⟩ := h1
    obtain ⟨q1, q2, q3, q4, q5⟩ := h3
    unfold same
    rw [dec_inj (by omega) (by omega) i1, dec_inj (by omega) (by omega) i2, dec_inj (by omega) (by omega) i3, dec_inj (by omega) (by omega) i4, dec_inj (by omega) (by omega) i5]
    simp

end Go.Proofs.YtjmfefaoenmppaaGreatDoor.Fx

namespace Go.Proofs.YtjmfefaoenmppaaGreatDoor.Fx
open Go.RowKit

theorem digs_no46 {l : List UInt8} (h : digs l) : ∀ x ∈ l, x ≠ 46 := by
  intro x hx e
  have := h x hx
  rw [e] at this
  exact absurd this (by decide)
theorem cuts_join {p q r s t : List UInt8} (hp : digs p) (hq : digs q) (hr : digs r) (hs : digs s) (ht : digs t) : cuts 46 (joinB p q r s t) = [p, q, r, s, t] := by
  unfold cuts
  rw [joinB_flat, cutA_at 46 _ _ _ (digs_no46 hp), cutA_at 46 _ _ _ (digs_no46 hq), cutA_at 46 _ _ _ (digs_no46 hr), cutA_at 46 _ _ _ (digs_no46 hs), cutA_none 46 _ _ (digs_no46 ht)]
  rfl
theorem num_dec (x : Int) (h : 0 ≤ x) (h2 : x ≤ 99460728) : isNum (strOf (Lib.decDigits x.toNat)) = true ∧ numV (strOf (Lib.decDigits x.toNat)) = x := by
  unfold isNum numV
  rw [strOf_toList, numG_yes (dec_good _ (by omega)), (dec_digs _).2.1]
  exact ⟨rfl, by show ((x.toNat : Nat) : Int) = x; omega⟩

theorem get_put {a b c d e : Int} (h : isOk a b c d e = true) : ptrG (strOf (putT a b c d e)) = (⟨a, b, c, d, e⟩, true) := by
  rcases putT_ok h with ⟨h1, h2⟩ | ⟨h0, h1, h2⟩
  · obtain ⟨rfl, rfl, rfl, rfl, rfl⟩ := hole_zero h1
    rw [h2]
    exact ptrG_hole
  · obtain ⟨i1, i2, i3, i4, i5⟩ := h1
    have hc : cutsB 46 (strOf (putT a b c d e)) = [strOf (Lib.decDigits a.toNat), strOf (Lib.decDigits b.toNat), strOf (Lib.decDigits c.toNat), strOf (Lib.decDigits d.toNat), strOf (Lib.decDigits e.toNat)] := by
      unfold cutsB
      rw [strOf_toList, h2, cuts_join (dec_digs _).1 (dec_digs _).1 (dec_digs _).1 (dec_digs _).1 (dec_digs _).1]
      rfl
    have n1 := num_dec a (by omega) (by omega)
    have n2 := num_dec b (by omega) (by omega)
    have n3 := num_dec c (by omega) (by omega)
    have n4 := num_dec d (by omega) (by omega)
    have n5 := num_dec e (by omega) (by omega)
    have hp : parts (strOf (putT a b c d e)) = (⟨a, b, c, d, e⟩, true) := by
      rw [parts_yes (by rw [hc]; rfl) (by
        rw [hc]
        intro p hp
        simp only [List.mem_cons, List.not_mem_nil, or_false] at hp
        rcases hp with rfl | rfl | rfl | rfl | rfl
        · exact n1.1
        · exact n2.1
        · exact n3.1
        · exact n4.1
        · exact n5.1), hc]
      unfold five
      simp only [List.getD_cons_zero, List.getD_cons_succ]
      rw [n1.2, n2.2, n3.2, n4.2, n5.2]
    have hne : strOf (putT a b c d e) ≠ ⟨#[45]⟩ := by
      intro e1
      have h3 := congrArg (fun x : ByteArray => (cutsB 46 x).length) e1
      rw [hc] at h3
      have h4 : (5 : Nat) = (cutsB 46 ⟨#[45]⟩).length := h3
      exact absurd h4 (by decide)
    rw [ptrG_yes hne (by rw [hp]) (by rw [hp]; exact h) (by rw [hp]; exact h0), hp]

theorem cutA_flat (c : UInt8) : ∀ (l cur : List UInt8) (p : List UInt8) (ps : List (List UInt8)), cutA c cur l = p :: ps → cur ++ l = p ++ ps.flatMap (fun x => c :: x)
  | [], cur, p, ps, h => by
    cases h
    simp
  | x :: l, cur, p, ps, h => by
    by_cases hx : x = c
    · subst hx
      rw [cutA_hit] at h
      injection h with h1 h2
      cases ps with
      | nil =>
        have := (cutA_len x l []).2
        rw [h2] at this
        simp at this
      | cons q qs =>
        have := cutA_flat x l [] q qs h2
        rw [h1]
        simp only [List.flatMap_cons, List.nil_append] at this ⊢
        rw [this]
        simp
    · rw [cutA_miss cur l hx] at h
      have := cutA_flat c l _ p ps h
      rw [← this, List.append_assoc]
      rfl
theorem num_text {p : ByteArray} (h : isNum p = true) : p.data.toList = numText (numV p) := by
  unfold isNum at h
  by_cases hg : Good p.data.toList
  · unfold numV
    rw [numG_yes hg]
    exact (num_of_good hg).symm
  · rw [numG_no hg] at h
    exact absurd h (by decide)

theorem put_get {s : ByteArray} {a b c d e : Int} (h : ptrG s = (⟨a, b, c, d, e⟩, true)) : isOk a b c d e = true ∧ strOf (putT a b c d e) = s := by
  unfold ptrG at h
  by_cases h1 : s = ⟨#[45]⟩
  · rw [if_pos h1] at h
    injection h with h2 _
    cases h2
    exact ⟨by decide, by rw [h1]; rfl⟩
  · rw [if_neg h1] at h
    by_cases h2 : (parts s).2 = true ∧ (parts s).1.ok = true ∧ (parts s).1.hole = false
    · rw [if_pos h2] at h
      obtain ⟨k1, k2, k3⟩ := h2
      injection h with h3 _
      rw [h3] at k2 k3
      have k2' : isOk a b c d e = true := k2
      have k3' : isHole a b c d e = false := k3
      refine ⟨k2', ?_⟩
      have hp : parts s = (five (cutsB 46 s), true) ∧ (cutsB 46 s).length = 5 ∧ ∀ p ∈ cutsB 46 s, isNum p = true := by
        by_cases hh : (cutsB 46 s).length = 5 ∧ ∀ p ∈ cutsB 46 s, isNum p = true
        · exact ⟨parts_yes hh.1 hh.2, hh⟩
        · rw [parts_no hh] at k1
          exact absurd k1 (by decide)
      obtain ⟨hp1, hp2, hp3⟩ := hp
      rw [hp1] at h3
      have hput : putT a b c d e = joinB (numText a) (numText b) (numText c) (numText d) (numText e) := by
        unfold putT
        rw [if_pos k2', if_neg (by rw [k3']; decide)]
      apply bytes_inj
      rw [strOf_toList, hput]
      obtain ⟨ps, hps⟩ : ∃ ps, ps = cuts 46 s.data.toList := ⟨_, rfl⟩
      have hB : cutsB 46 s = ps.map strOf := by rw [hps]; rfl
      rw [hB] at hp2 hp3 h3
      match ps, hps, hp2, hp3, h3 with
      | [x0, x1, x2, x3, x4], hps, _, hp3, h3 =>
        have f := cutA_flat 46 s.data.toList [] x0 [x1, x2, x3, x4] hps.symm
        have t0 := num_text (hp3 (strOf x0) (by simp))
        have t1 := num_text (hp3 (strOf x1) (by simp))
        have t2 := num_text (hp3 (strOf x2) (by simp))
        have t3 := num_text (hp3 (strOf x3) (by simp))
        have t4 := num_text (hp3 (strOf x4) (by simp))
        rw [strOf_toList] at t0 t1 t2 t3 t4
        unfold five at h3
        simp only [List.map_cons, List.map_nil, List.getD_cons_zero, List.getD_cons_succ] at h3
        injection h3 with g0 g1 g2 g3 g4
        rw [g0] at t0
        rw [g1] at t1
        rw [g2] at t2
        rw [g3] at t3
        rw [g4] at t4
        rw [List.nil_append] at f
        rw [f, ← t0, ← t1, ← t2, ← t3, ← t4]
        simp [joinB]
    · rw [if_neg h2] at h
      injection h with _ h4
      exact absurd h4 (by decide)

theorem putT_short (a b c d e : Int) : (putT a b c d e).length ≤ 49 := by
  unfold putT
  have la := num_short a
  have lb := num_short b
  have lc := num_short c
  have ld := num_short d
  have le := num_short e
  split
  · split
    · simp
    · simp only [joinB, List.length_append, List.length_singleton]
      omega
  · simp

end Go.Proofs.YtjmfefaoenmppaaGreatDoor.Fx

namespace Go.Proofs.YtjmfefaoenmppaaGreatDoor.Fx
open Go.RowKit

def _root_.Go.Proofs.YtjmfefaoenmppaaGreatDoor.P5.text (p : P5) : List UInt8 := putT p.a p.b p.c p.d p.e
theorem _root_.Go.Proofs.YtjmfefaoenmppaaGreatDoor.PtrsAt.cell0 {W : World} {b : Nat} {ps : List P5} (h : PtrsAt W b ps) (hj : 0 < ps.length) {a c d e f : Int} (hp : ps[0] = ⟨a, c, d, e, f⟩) :
    W.cell? ⟨b, 0, none⟩ = some (.int .i64 a) ∧ W.cell? ⟨b, 1, none⟩ = some (.int .i64 c) ∧ W.cell? ⟨b, 2, none⟩ = some (.int .i64 d) ∧ W.cell? ⟨b, 3, none⟩ = some (.int .i64 e) ∧ W.cell? ⟨b, 4, none⟩ = some (.int .i64 f) := h.cell 0 hj hp

/-- Texts with a comma between. -/
def joinP : List (List UInt8) → List UInt8
  | [] => []
  | x :: xs => x ++ xs.flatMap (fun y => 44 :: y)
theorem joinP_snoc (xs : List (List UInt8)) (y : List UInt8) (h : xs ≠ []) : joinP (xs ++ [y]) = joinP xs ++ [44] ++ y := by
  cases xs with
  | nil => exact absurd rfl h
  | cons x xs => simp [joinP]
theorem join_is (a b c d : List UInt8) : Lib.join [a, b, c, d] [44] = joinP [a, b, c, d] := by simp [Lib.join, List.intercalate, List.intersperse, joinP]
def textOf (ps : List P5) : List UInt8 := joinP (ps.map P5.text)
theorem textOf_nil : textOf [] = [] := rfl
theorem textOf_one (ps : List P5) (j : Nat) (hj : j < ps.length) (h0 : j = 0) : textOf (ps.take (j + 1)) = ps[j].text := by
  subst h0
  cases ps with
  | nil => simp at hj
  | cons p ps => simp [textOf, joinP]
theorem textOf_more (ps : List P5) (j : Nat) (hj : j < ps.length) (h0 : j ≠ 0) : textOf (ps.take (j + 1)) = textOf (ps.take j) ++ [44] ++ ps[j].text := by
  unfold textOf
  rw [List.take_succ_eq_append_getElem hj, List.map_append, List.map_cons, List.map_nil, joinP_snoc _ _ (by
    intro e
    have := congrArg List.length e
    rw [List.length_map, List.length_take, List.length_nil] at this
    omega)]
theorem textOf_short (ps : List P5) : (textOf ps).length ≤ 50 * ps.length := by
  unfold textOf
  cases ps with
  | nil => simp [joinP]
  | cons p ps =>
    have hp := putT_short p.a p.b p.c p.d p.e
    have : ∀ qs : List P5, ((qs.map P5.text).flatMap (fun y => 44 :: y)).length ≤ 50 * qs.length := by
      intro qs
      induction qs with
      | nil => simp
      | cons q qs ih =>
        have hq := putT_short q.a q.b q.c q.d q.e
        rw [List.map_cons, List.flatMap_cons, List.length_append, List.length_cons, List.length_cons]
        have : (P5.text q).length ≤ 49 := hq
        omega
    have h2 := this ps
    rw [List.map_cons, joinP, List.length_append, List.length_cons]
    have : (P5.text p).length ≤ 49 := hp
    omega

def allOk (ps : List P5) : Prop := ∀ p ∈ ps, p.ok = true
def someP (ps : List P5) : Bool := ps.any fun p => !p.hole
theorem someP_more (ps : List P5) (j : Nat) (hj : j < ps.length) : someP (ps.take (j + 1)) = (someP (ps.take j) || !ps[j].hole) := by
  unfold someP
  rw [List.take_succ_eq_append_getElem hj, List.any_append]
  simp
/-- What FanPut answers. -/
def fanG (ps : List P5) : ByteArray × Bool := if ps.length = 4 ∧ (∀ p ∈ ps, p.ok = true) ∧ someP ps = true then (strOf (textOf ps), true) else (⟨#[]⟩, false)
theorem fanG_yes {ps : List P5} (h : ps.length = 4) (h1 : ∀ p ∈ ps, p.ok = true) (h2 : someP ps = true) : fanG ps = (strOf (textOf ps), true) := if_pos ⟨h, h1, h2⟩
theorem fanG_no {ps : List P5} (h : ¬ (ps.length = 4 ∧ (∀ p ∈ ps, p.ok = true) ∧ someP ps = true)) : fanG ps = (⟨#[]⟩, false) := if_neg h
end Go.Proofs.YtjmfefaoenmppaaGreatDoor.Fx

namespace Go.Proofs.YtjmfefaoenmppaaGreatDoor.Fx
open Go.RowKit

set_option maxRecDepth 100000 in
set_option maxHeartbeats 4000000 in
theorem spec_fput (ps : List P5) (b cap : Nat) (w : World) (Y : PtrsAt w b ps) :
    Calls Tryz.prog 125 #[.slice (some ⟨b, 0, none⟩) ps.length cap] w fun r w' => r = .returned (.tuple #[.string (fanG ps).1, .bool (fanG ps).2]) ∧ Below w.heap.size w w' := by
  by_cases h4 : ps.length = 4
  · skip
    have hyes := @fanG_yes ps h4
    have hno := @fanG_no ps
    obtain ⟨r, hr⟩ : ∃ r, r = fanG ps := ⟨_, rfl⟩
    rw [← hr] at hyes hno ⊢
    clear hr
    rw [h4]
    go_enter Tryz.func125, Tryz.ntmps125
    go_wp2_with fail
    go_loopg [4, 5, 6] 4 (fun gh out sm i wr => ∃ (j : Nat), gh = 4 - j ∧ j ≤ 4 ∧ i = .int .i64 j ∧ out = .string (strOf (textOf (ps.take j))) ∧ sm = .bool (someP (ps.take j)) ∧ (∀ k (hk : k < ps.length), k < j → (ps[k]).ok = true) ∧ PtrsAt wr b ps ∧ Below w.heap.size w wr)
    case atStart => exact ⟨0, by omega, by omega, rfl, rfl, rfl, by omega, Y, Below.refl _ _⟩
    case round =>
      obtain ⟨j, hg, hj, rfl, rfl, rfl, hok, hY, hb⟩ := hrel
      have HG := Lib.hid hg
      clear hg Y
      by_cases hlt : j < 4
      · have hlt' : (j : Int) < 4 := by omega
        have hjp : j < ps.length := by omega
        obtain ⟨a, c, d, e, f, hp⟩ : ∃ a c d e f, ps[j] = ⟨a, c, d, e, f⟩ := ⟨_, _, _, _, _, rfl⟩
        obtain ⟨y0, y1, y2, y3, y4⟩ := hY.cell j hjp hp
        have hO : ∀ W, Calls Tryz.prog 71 #[.agg #[.int .i64 a, .int .i64 c, .int .i64 d, .int .i64 e, .int .i64 f]] W fun r w' => r = .returned (.bool (isOk a c d e f)) ∧ Below W.heap.size W w' := fun W => (spec_ok a c d e f W).mono fun r w' ⟨h1, h2⟩ => ⟨h1, h2 ▸ bel_new (bel_new (Below.refl _ _) _) _⟩
        by_cases hk : isOk a c d e f = true
        · rw [hk] at hO
          have HK : Hid (∀ k (hk : k < ps.length), k < j + 1 → (ps[k]).ok = true) := Lib.hid (fun k hk2 hkj => by
            by_cases e1 : k = j
            · subst e1
              rw [hp]
              exact hk
            · exact hok k hk2 (by omega))
          have hM : ∀ W, Calls Tryz.prog 72 #[.agg #[.int .i64 a, .int .i64 c, .int .i64 d, .int .i64 e, .int .i64 f]] W fun r w' => r = .returned (.bool (isHole a c d e f)) ∧ Below W.heap.size W w' := fun W => (spec_hole a c d e f W).mono fun r w' ⟨h1, h2⟩ => ⟨h1, h2 ▸ bel_new (Below.refl _ _) _⟩
          have hT := fun W => spec_put a c d e f W
          have hsm := someP_more ps j hjp
          rw [hp] at hsm
          have hsm2 : someP (ps.take (j + 1)) = (someP (ps.take j) || !isHole a c d e f) := hsm
          have hone := textOf_one ps j hjp
          have hmore := textOf_more ps j hjp
          rw [hp] at hone hmore
          have hone2 : j = 0 → textOf (ps.take (j + 1)) = putT a c d e f := hone
          have hmore2 : j ≠ 0 → textOf (ps.take (j + 1)) = textOf (ps.take j) ++ [44] ++ putT a c d e f := hmore
          have hz : j = 0 → textOf (ps.take j) = [] := fun h => by rw [h]; rfl
          have hlen := textOf_short (ps.take j)
          rw [List.length_take] at hlen
          have hps := putT_short a c d e f
          obtain ⟨x, hx⟩ : ∃ x, x = putT a c d e f := ⟨_, rfl⟩
          obtain ⟨z, hz2⟩ : ∃ z, z = isHole a c d e f := ⟨_, rfl⟩
          obtain ⟨T, hTe⟩ : ∃ T, T = textOf (ps.take j) := ⟨_, rfl⟩
          obtain ⟨s, hs⟩ : ∃ s, s = someP (ps.take j) := ⟨_, rfl⟩
          rw [← hx] at hT hone2 hmore2 hps
          rw [← hz2] at hM hsm2
          rw [← hTe] at hmore2 hz hlen ⊢
          rw [← hs] at hsm2 ⊢
          have HS := Lib.hid hsm2
          have H1 := Lib.hid hone2
          have H2 := Lib.hid hmore2
          have ad0 : ∀ w, (Op.stringOp .add ⟨#[]⟩ (strOf x)).run Tryz.prog w = .ok (.string (strOf x)) w := fun w => add_strs Tryz.prog [] x (by simp; omega) w
          have ad1 : ∀ w, (Op.stringOp .add (strOf T) ⟨#[44]⟩).run Tryz.prog w = .ok (.string (strOf (T ++ [44]))) w := fun w => add_strs Tryz.prog T [44] (by simp; omega) w
          have ad2 : ∀ w, (Op.stringOp .add (strOf (T ++ [44])) (strOf x)).run Tryz.prog w = .ok (.string (strOf (T ++ [44] ++ x))) w := fun w => add_strs Tryz.prog (T ++ [44]) x (by simp; omega) w
          clear hsm hsm2 hone hone2 hmore hmore2 hx hz2 hTe hs hk hok hno hyes
          by_cases hj0 : j = 0
          · subst hj0
            obtain ⟨y0, y1, y2, y3, y4⟩ := hY.cell0 hjp hp
            have ad3 : ∀ w, (Op.stringOp .add (strOf T) (strOf x)).run Tryz.prog w = .ok (.string (strOf x)) w := by
              rw [hz rfl]
              exact ad0
            have H3 := Lib.hid (H1.out rfl)
            clear ad0 ad1 ad2 H1 H2 hz
            cases s <;> cases z
            all_goals go_wp2_with (first | (go_at_call 71; refine (hO _).mono ?_; rintro r w1 ⟨rfl, hb1⟩; have BB := bel_then hb hb1; have YY := hY.below hb1; obtain ⟨y0, y1, y2, y3, y4⟩ := YY.cell0 hjp hp) | (go_at_call 72; refine (hM _).mono ?_; rintro r w2 ⟨rfl, hb2⟩; have BB := bel_then BB hb2; have YY := YY.below hb2; obtain ⟨y0, y1, y2, y3, y4⟩ := YY.cell0 hjp hp) | (go_at_call 139; refine (hT _).mono ?_; rintro r w3 ⟨rfl, hb3⟩; have BB := bel_then BB hb3; have YY := YY.below hb3))
            all_goals go_roundg (4 - (0 + 1))
            all_goals first
              | (have := HG.out; omega)
              | exact ⟨0 + 1, rfl, by omega, by go_num, (by first | (rw [H3.out]; done) | (rw [H3.out]; simp)), by rw [HS.out]; rfl, HK.out, YY, BB⟩
          · have hj0' : (0 : Int) < (j : Int) := by omega
            have H3 := Lib.hid (H2.out hj0)
            clear ad0 H1 H2 hz
            cases s <;> cases z
            all_goals go_wp2_with (first | (go_at_call 71; refine (hO _).mono ?_; rintro r w1 ⟨rfl, hb1⟩; have BB := bel_then hb hb1; have YY := hY.below hb1; obtain ⟨y0, y1, y2, y3, y4⟩ := YY.cell j hjp hp) | (go_at_call 72; refine (hM _).mono ?_; rintro r w2 ⟨rfl, hb2⟩; have BB := bel_then BB hb2; have YY := YY.below hb2; obtain ⟨y0, y1, y2, y3, y4⟩ := YY.cell j hjp hp) | (go_at_call 139; refine (hT _).mono ?_; rintro r w3 ⟨rfl, hb3⟩; have BB := bel_then BB hb3; have YY := YY.below hb3))
            all_goals go_roundg (4 - (j + 1))
            all_goals first
              | (have := HG.out; omega)
              | exact ⟨j + 1, rfl, by omega, by go_num, (by first | (rw [H3.out]; done) | (rw [H3.out]; simp)), by rw [HS.out]; rfl, HK.out, YY, BB⟩
        · have hk' : isOk a c d e f = false := by simpa using hk
          rw [hk'] at hO
          have hv : r = (⟨#[]⟩, false) := hno (fun h => by
            have := h.2.1 _ (List.getElem_mem hjp)
            rw [hp] at this
            exact hk this)
          subst hv
          clear hk hk' hno hyes hok hp
          go_wp2_with (go_at_call 71; refine (hO _).mono ?_; rintro r w1 ⟨rfl, hb1⟩)
          go_ret2
          exact ⟨rfl, bel_then hb hb1⟩
      · obtain rfl : j = 4 := by omega
        have hall : ∀ p ∈ ps, p.ok = true := fun p hp => by
          obtain ⟨k, hk, rfl⟩ := List.getElem_of_mem hp
          exact hok k hk (by omega)
        have ht : ps.take 4 = ps := List.take_of_length_le (by omega)
        rw [ht]
        by_cases hs : someP ps = true
        · have hv := hyes hall hs
          rw [hs]
          obtain ⟨T, hT⟩ : ∃ T, T = textOf ps := ⟨_, rfl⟩
          rw [← hT] at hv ⊢
          subst hv
          clear hno hyes hok hall hs hT
          go_wp2_with fail
          go_ret2
          exact ⟨rfl, hb⟩
        · have hs' : someP ps = false := by simpa using hs
          have hv : r = (⟨#[]⟩, false) := hno (fun h => hs h.2.2)
          rw [hs']
          obtain ⟨T, hT⟩ : ∃ T, T = textOf ps := ⟨_, rfl⟩
          rw [← hT]
          subst hv
          clear hno hyes hok hall hs hs' hT
          go_wp2_with fail
          go_ret2
          exact ⟨rfl, hb⟩
  · have hq5 : ((ps.length : Int) != 4) = true := by rw [bne_iff_ne]; omega
    rw [fanG_no (fun h => h4 h.1)]
    obtain ⟨n, hn⟩ : ∃ n, n = ps.length := ⟨_, rfl⟩
    rw [← hn] at hq5 ⊢
    clear h4 hn Y
    go_enter Tryz.func125, Tryz.ntmps125
    go_wp2_with fail
    go_ret2
    exact ⟨rfl, Below.refl _ _⟩
end Go.Proofs.YtjmfefaoenmppaaGreatDoor.Fx

namespace Go.Proofs.YtjmfefaoenmppaaGreatDoor.Fx
open Go.RowKit

theorem own_below5 {w w' : World} {t : TypeId} {sz base n : Nat} {v : Value} {xs : List Value} (h : w.ownsRow base t sz v n xs) (hb : Below w.heap.size w w') : w'.ownsRow base t sz v n xs := by
  refine h.kept (row := none) ⟨hb.os, hb.tape, hb.output, hb.size, fun k hk _ => hb.block k hk⟩ ?_
  cases v.ownBlock with
  | none => exact .inl rfl
  | some k => exact .inr (by simp)
end Go.Proofs.YtjmfefaoenmppaaGreatDoor.Fx

namespace Go.Proofs.YtjmfefaoenmppaaGreatDoor.Fx
open Go.RowKit

def rdP (q : ByteArray) : P5 := (ptrG q).1
def rdOk (q : ByteArray) : Bool := (ptrG q).2
def fanR (s : ByteArray) : List P5 × Bool :=
  if (cutsB 44 s).length = 4 ∧ (∀ q ∈ cutsB 44 s, rdOk q = true) ∧ someP ((cutsB 44 s).map rdP) = true then ((cutsB 44 s).map rdP, true) else ([], false)
theorem fanR_yes {s : ByteArray} (h : (cutsB 44 s).length = 4) (h1 : ∀ q ∈ cutsB 44 s, rdOk q = true) (h2 : someP ((cutsB 44 s).map rdP) = true) : fanR s = ((cutsB 44 s).map rdP, true) := if_pos ⟨h, h1, h2⟩
theorem fanR_no {s : ByteArray} (h : ¬ ((cutsB 44 s).length = 4 ∧ (∀ q ∈ cutsB 44 s, rdOk q = true) ∧ someP ((cutsB 44 s).map rdP) = true)) : fanR s = ([], false) := if_neg h

def FanPost (r : List P5 × Bool) (t : TypeId) (w : World) (e : Ending) (w' : World) : Prop :=
  Below w.heap.size w w' ∧ ((r.2 = true ∧ ∃ g c : Nat, e = .returned (.tuple #[.slice (some ⟨g, 0, none⟩) r.1.length c, .bool true]) ∧ w'.ownsRow w.heap.size t 5 (.slice (some ⟨g, 0, none⟩) r.1.length c) r.1.length (flat r.1)) ∨
    (r.2 = false ∧ ∃ (A : Option Addr) (c : Nat), e = .returned (.tuple #[.slice A 0 c, .bool false])))

theorem own_base {w : World} {t : TypeId} {sz base base' n : Nat} {v : Value} {xs : List Value} (h : w.ownsRow base t sz v n xs) (hb : base' ≤ base) : w.ownsRow base' t sz v n xs := by
  refine ⟨h.1, ?_⟩
  rcases h.2 with h2 | ⟨g, cap, cur, h3, h4, h5⟩
  · exact .inl h2
  · exact .inr ⟨g, cap, cur, h3, Nat.le_trans hb h4, h5⟩
theorem own_form5 {w : World} {t : TypeId} {sz base n : Nat} {v : Value} {xs : List Value} (h : w.ownsRow base t sz v n xs) (hn : 0 < n) : ∃ g cap, v = .slice (some ⟨g, 0, none⟩) n cap := by
  rcases h.2 with ⟨_, h0⟩ | ⟨g, cap, _, rfl, _⟩
  · omega
  · exact ⟨g, cap, rfl⟩
theorem bel_row5 {a w w' : World} {t : TypeId} {sz base n : Nat} {v : Value} {xs : List Value} (h : Below a.heap.size a w) (ho : w.ownsRow base t sz v n xs) (hb : a.heap.size ≤ base) (hg : w.grownBy w' v.ownBlock) : Below a.heap.size a w' :=
  h.grown hg h.size (fun k e => Nat.le_trans hb (ho.lt k e).1)
theorem cell_five_new (w : World) (a c d e f : Value) (t : TypeId) : ∀ j u, [a, c, d, e, f][j]? = some u → (w.alloc (.cells #[a, c, d, e, f] t)).cell? ((⟨w.heap.size, 0, none⟩ : Addr).add j) = some u := by
  intro j u hj
  have hadd : (⟨w.heap.size, 0, none⟩ : Addr).add j = ⟨w.heap.size, j, none⟩ := by unfold Addr.add; split <;> simp_all
  rw [hadd, World.cell?_alloc_mark]
  match j, hj with
  | 0, hj => exact hj
  | 1, hj => exact hj
  | 2, hj => exact hj
  | 3, hj => exact hj
  | 4, hj => exact hj
  | j + 5, hj => simp at hj
theorem cell_five_at (w : World) (g : Nat) (hg : g = w.heap.size) (a c d e f : Value) (t : TypeId) : ∀ j u, [a, c, d, e, f][j]? = some u → (w.alloc (.cells #[a, c, d, e, f] t)).cell? ((⟨g, 0, none⟩ : Addr).add j) = some u := by
  subst hg
  exact cell_five_new w a c d e f t
theorem flat_next {qs : List ByteArray} {j : Nat} (h : j < qs.length) {a c d e f : Int} (hp : rdP qs[j] = ⟨a, c, d, e, f⟩) : flat ((qs.map rdP).take (j + 1)) = flat ((qs.map rdP).take j) ++ [.int .i64 a, .int .i64 c, .int .i64 d, .int .i64 e, .int .i64 f] := by
  rw [List.take_succ_eq_append_getElem (by simpa using h), List.getElem_map, hp]
  unfold flat
  rw [List.flatMap_append]
  simp [P5.cells]
theorem some_next {qs : List ByteArray} {j : Nat} (h : j < qs.length) {a c d e f : Int} (hp : rdP qs[j] = ⟨a, c, d, e, f⟩) : someP ((qs.map rdP).take (j + 1)) = (someP ((qs.map rdP).take j) || !isHole a c d e f) := by
  rw [List.take_succ_eq_append_getElem (by simpa using h), List.getElem_map, hp]
  unfold someP
  rw [List.any_append]
  simp [P5.hole]

set_option maxRecDepth 100000 in
set_option maxHeartbeats 4000000 in
theorem spec_fanget (s : ByteArray) (w : World) (hs : s.size ≤ 1048576) : Calls Tryz.prog 100 #[.string s] w (FanPost (fanR s) 40 w) := by
  have hC := spec_cut s 44 w hs
  rw [show ((44 : UInt8).toNat : Int) = 44 from rfl] at hC
  have hsz := cutsB_short 44 s
  have hyes := @fanR_yes s
  have hno := @fanR_no s
  have hlen : (cutsB 44 s).length ≤ 1048577 := by
    have := (cutA_len 44 s.data.toList []).1
    rw [cutsB_len]
    have h2 : s.data.toList.length = s.size := by simp
    show (cutA 44 [] s.data.toList).length ≤ _
    omega
  obtain ⟨qs, hqs⟩ : ∃ qs, qs = cutsB 44 s := ⟨_, rfl⟩
  obtain ⟨r, hr⟩ : ∃ r, r = fanR s := ⟨_, rfl⟩
  rw [← hqs] at hC hsz hlen hyes hno
  rw [← hr] at hyes hno ⊢
  clear hqs hr
  obtain ⟨i0, hi, hz0, hz1, hz2⟩ := info_parts Tryz.info40
  go_enter Tryz.func100, Tryz.ntmps100
  go_wp2_with (go_at_call 120; refine hC.mono ?_; rintro e w1 ⟨g, cp, rfl, ho, hb1⟩; refine Hid.out ?_)
  refine Lib.hid ?_
  have hA := StrsAt.of_own ho rfl
  have o1 := World.ownsRow_made (e := 40) (base := w1.heap.size) w1 (size := 5) #[] 0 (Nat.le_refl _) (by decide) rfl
  have hn0 : 0 < w.heap.size ∨ True := .inr trivial
  clear ho hC hn0
  go_wp2_with fail
  go_loopg [5, 6, 7] qs.length (fun gh b sm i wr => ∃ (j g2 c2 : Nat), gh = qs.length - j ∧ j ≤ qs.length ∧ i = .int .i64 j ∧ b = .slice (some ⟨g2, 0, none⟩) j c2 ∧ sm = .bool (someP ((qs.map rdP).take j)) ∧ (∀ k (hk : k < qs.length), k < j → rdOk qs[k] = true) ∧ wr.ownsRow w1.heap.size 40 5 (.slice (some ⟨g2, 0, none⟩) j c2) j (flat ((qs.map rdP).take j)) ∧ Below w1.heap.size w1 wr)
  case atStart => exact ⟨0, w1.heap.size, 0, by omega, by omega, rfl, rfl, rfl, by omega, o1, bel_fresh2 w1⟩
  case round =>
    clear o1
    obtain ⟨j, g2, c2, hg, hj, rfl, rfl, rfl, hok, ho, hb⟩ := hrel
    have HG := Lib.hid hg
    clear hg
    have s1 := hb.size
    by_cases hlt : j < qs.length
    · have hlt' : (j : Int) < (qs.length : Int) := by omega
      obtain ⟨b9, off9, e9, hlb, hc9⟩ := (hA.below hb) (by omega)
      obtain ⟨rfl, rfl⟩ : b9 = g ∧ off9 = 0 := by cases e9; exact ⟨rfl, rfl⟩
      have hck := hc9 j hlt
      rw [Nat.zero_add] at hck
      have hpj := hsz qs[j] (List.getElem_mem _)
      have hP := fun W => spec_pget qs[j] W (by omega)
      obtain ⟨a, c, d, e, f, hp⟩ : ∃ a c d e f, rdP qs[j] = ⟨a, c, d, e, f⟩ := ⟨_, _, _, _, _, rfl⟩
      have HF := Lib.hid (flat_next hlt hp)
      have HS := Lib.hid (some_next hlt hp)
      obtain ⟨o, hoo⟩ : ∃ o, o = rdOk qs[j] := ⟨_, rfl⟩
      have hP2 : ∀ W, Calls Tryz.prog 121 #[.string qs[j]] W fun e' w' => e' = .returned (.tuple #[.agg #[.int .i64 a, .int .i64 c, .int .i64 d, .int .i64 e, .int .i64 f], .bool o]) ∧ Below W.heap.size W w' := fun W => (hP W).mono fun e' w' ⟨h1, h2⟩ => ⟨by rw [h1, hoo]; unfold rdOk; have : (ptrG qs[j]).1 = ⟨a, c, d, e, f⟩ := hp; rw [this]; rfl, h2⟩
      have hM : ∀ W, Calls Tryz.prog 72 #[.agg #[.int .i64 a, .int .i64 c, .int .i64 d, .int .i64 e, .int .i64 f]] W fun r w' => r = .returned (.bool (isHole a c d e f)) ∧ w' = W.alloc (.cells #[.int .i64 a, .int .i64 c, .int .i64 d, .int .i64 e, .int .i64 f] 40) := fun W => spec_hole a c d e f W
      cases o with
      | false =>
        have hv : r = ([], false) := hno (fun h => by
          have := h.2.1 _ (List.getElem_mem hlt)
          rw [← hoo] at this
          exact absurd this (by decide))
        subst hv
        obtain ⟨q, hq⟩ : ∃ q, q = qs[j] := ⟨_, rfl⟩
        rw [← hq] at hP2 hck
        clear hP hpj hp hq hoo hok hno hyes hsz hc9 e9 HF HS hM
        go_wp2_with (go_at_call 121; refine (hP2 _).mono ?_; rintro r w2 ⟨rfl, hb2⟩)
        go_ret2
        exact ⟨bel_new (bel_new (bel_then (bel_then hb1 hb) hb2) _) _, .inr ⟨rfl, _, _, rfl⟩⟩
      | true =>
        have HK : Hid (∀ k (hk : k < qs.length), k < j + 1 → rdOk qs[k] = true) := Lib.hid (fun k hk hkj => by
          by_cases e1 : k = j
          · subst e1; exact hoo.symm
          · exact hok k hk (by omega))
        obtain ⟨q, hq⟩ : ∃ q, q = qs[j] := ⟨_, rfl⟩
        rw [← hq] at hP2 hck
        obtain ⟨z, hz⟩ : ∃ z, z = isHole a c d e f := ⟨_, rfl⟩
        obtain ⟨sb, hsb⟩ : ∃ sb, sb = someP ((qs.map rdP).take j) := ⟨_, rfl⟩
        rw [← hz, ← hsb] at HS
        rw [← hz] at hM
        rw [← hsb]
        clear hP hpj hp hq hoo hok hno hyes hsz hc9 e9 hz hsb
        cases sb
        · cases z
          · skip
            go_wp2_with (first | (go_at_call 121; refine (hP2 _).mono ?_; rintro r w2 ⟨rfl, hb2⟩; have ho2 := own_below5 ho hb2; have B2 := bel_then hb hb2; have s2 := B2.size) | (go_at_call 72; refine (hM _).mono ?_; rintro r w3 ⟨rfl, rfl⟩) | (at_builtin; refine wpList_append_own_at _ rfl _ _ 36 rfl w1.heap.size 40 i0 (.agg #[.int .i64 0, .int .i64 0, .int .i64 0, .int .i64 0, .int .i64 0]) 5 40 Tryz.underlying36 hi hz0 hz1 hz2 rfl (by decide) _ _ _ rfl (((ho2.alloc _).alloc _).alloc _) ⟨_, 0, none⟩ 1 1 [.int .i64 a, .int .i64 c, .int .i64 d, .int .i64 e, .int .i64 f] rfl rfl (cell_five_at _ _ (by simp) _ _ _ _ _ _) (by simp [Value.oneCell']) (by unfold maxLen; omega) (by omega) (by simp; omega) ?_))
            intro v' w4 hown' hgrow _ hat
            have R : w4.ownsRow w1.heap.size 40 5 v' (j + 1) (flat ((qs.map rdP).take (j + 1))) := by rw [HF.out]; exact hown'
            have B4 : Below w1.heap.size w1 w4 := bel_row5 (bel_new (bel_new (bel_new B2 _) _) _) (((ho2.alloc _).alloc _).alloc _) (Nat.le_refl _) hgrow
            obtain ⟨g4, c4, rfl⟩ := own_form5 R (by omega)
            clear hown' hgrow hat ho ho2 hb hb2
            go_wp2
            go_roundg (qs.length - (j + 1))
            case measure => have := HG.out; omega
            case rel => exact ⟨j + 1, g4, c4, rfl, by omega, by go_num, rfl, by rw [HS.out]; rfl, HK.out, R, B4⟩
          · skip
            go_wp2_with (first | (go_at_call 121; refine (hP2 _).mono ?_; rintro r w2 ⟨rfl, hb2⟩; have ho2 := own_below5 ho hb2; have B2 := bel_then hb hb2; have s2 := B2.size) | (go_at_call 72; refine (hM _).mono ?_; rintro r w3 ⟨rfl, rfl⟩) | (at_builtin; refine wpList_append_own_at _ rfl _ _ 36 rfl w1.heap.size 40 i0 (.agg #[.int .i64 0, .int .i64 0, .int .i64 0, .int .i64 0, .int .i64 0]) 5 40 Tryz.underlying36 hi hz0 hz1 hz2 rfl (by decide) _ _ _ rfl (((ho2.alloc _).alloc _).alloc _) ⟨_, 0, none⟩ 1 1 [.int .i64 a, .int .i64 c, .int .i64 d, .int .i64 e, .int .i64 f] rfl rfl (cell_five_at _ _ (by simp) _ _ _ _ _ _) (by simp [Value.oneCell']) (by unfold maxLen; omega) (by omega) (by simp; omega) ?_))
            intro v' w4 hown' hgrow _ hat
            have R : w4.ownsRow w1.heap.size 40 5 v' (j + 1) (flat ((qs.map rdP).take (j + 1))) := by rw [HF.out]; exact hown'
            have B4 : Below w1.heap.size w1 w4 := bel_row5 (bel_new (bel_new (bel_new B2 _) _) _) (((ho2.alloc _).alloc _).alloc _) (Nat.le_refl _) hgrow
            obtain ⟨g4, c4, rfl⟩ := own_form5 R (by omega)
            clear hown' hgrow hat ho ho2 hb hb2
            go_wp2
            go_roundg (qs.length - (j + 1))
            case measure => have := HG.out; omega
            case rel => exact ⟨j + 1, g4, c4, rfl, by omega, by go_num, rfl, by rw [HS.out]; rfl, HK.out, R, B4⟩
        · skip
          go_wp2_with (first | (go_at_call 121; refine (hP2 _).mono ?_; rintro r w2 ⟨rfl, hb2⟩; have ho2 := own_below5 ho hb2; have B2 := bel_then hb hb2; have s2 := B2.size) | (go_at_call 72; refine (hM _).mono ?_; rintro r w3 ⟨rfl, rfl⟩) | (at_builtin; refine wpList_append_own_at _ rfl _ _ 36 rfl w1.heap.size 40 i0 (.agg #[.int .i64 0, .int .i64 0, .int .i64 0, .int .i64 0, .int .i64 0]) 5 40 Tryz.underlying36 hi hz0 hz1 hz2 rfl (by decide) _ _ _ rfl ((ho2.alloc _).alloc _) ⟨_, 0, none⟩ 1 1 [.int .i64 a, .int .i64 c, .int .i64 d, .int .i64 e, .int .i64 f] rfl rfl (cell_five_at _ _ (by simp) _ _ _ _ _ _) (by simp [Value.oneCell']) (by unfold maxLen; omega) (by omega) (by simp; omega) ?_))
          intro v' w4 hown' hgrow _ hat
          have R : w4.ownsRow w1.heap.size 40 5 v' (j + 1) (flat ((qs.map rdP).take (j + 1))) := by rw [HF.out]; exact hown'
          have B4 : Below w1.heap.size w1 w4 := bel_row5 (bel_new (bel_new B2 _) _) ((ho2.alloc _).alloc _) (Nat.le_refl _) hgrow
          obtain ⟨g4, c4, rfl⟩ := own_form5 R (by omega)
          clear hown' hgrow hat ho ho2 hb hb2
          go_wp2
          go_roundg (qs.length - (j + 1))
          case measure => have := HG.out; omega
          case rel => exact ⟨j + 1, g4, c4, rfl, by omega, by go_num, rfl, by rw [HS.out]; rfl, HK.out, R, B4⟩
    · obtain rfl : j = qs.length := by omega
      have hall : ∀ q ∈ qs, rdOk q = true := fun q hq => by
        obtain ⟨k, hk, rfl⟩ := List.getElem_of_mem hq
        exact hok k hk hk
      rw [List.take_of_length_le (by simp)] at ho ⊢
      have BB := bel_then hb1 hb
      have hbase := own_base ho hb1.size
      by_cases hx : qs.length = 4 ∧ someP (qs.map rdP) = true
      · have hv := hyes hx.1 hall hx.2
        have hq4 : ((qs.length : Int) != 4) = false := by rw [hx.1]; rfl
        rw [hx.2]
        obtain ⟨ps, hps⟩ : ∃ ps, ps = qs.map rdP := ⟨_, rfl⟩
        rw [← hps] at hv hbase
        have hl : ps.length = qs.length := by rw [hps, List.length_map]
        have HB : Hid (wr.ownsRow w.heap.size 40 5 (.slice (some ⟨g2, 0, none⟩) ps.length c2) ps.length (flat ps)) := Lib.hid (by rw [hl]; exact hbase)
        have HL := Lib.hid hl
        subst hv
        clear hall hok hno hyes hx hps ho hl hbase hb
        go_wp2_with fail
        go_ret2
        exact ⟨BB, .inl ⟨rfl, g2, c2, congrArg (fun n : Nat => Ending.returned (Value.tuple #[.slice (some ⟨g2, 0, none⟩) n c2, .bool true])) HL.out.symm, HB.out⟩⟩
      · have hv : r = ([], false) := hno (fun h => hx ⟨h.1, h.2.2⟩)
        subst hv
        by_cases h4 : qs.length = 4
        · have hs0 : someP (qs.map rdP) = false := by
            cases h : someP (qs.map rdP) with
            | false => rfl
            | true => exact absurd ⟨h4, h⟩ hx
          have hq4 : ((qs.length : Int) != 4) = false := by rw [h4]; rfl
          rw [hs0]
          clear hall hok hno hyes hx h4 hs0
          go_wp2_with fail
          go_ret2
          exact ⟨bel_new BB _, .inr ⟨rfl, _, _, rfl⟩⟩
        · have hq4 : ((qs.length : Int) != 4) = true := by rw [bne_iff_ne]; omega
          obtain ⟨sb, hsb⟩ : ∃ sb, sb = someP (qs.map rdP) := ⟨_, rfl⟩
          rw [← hsb]
          clear hall hok hno hyes hx h4 hsb
          go_wp2_with fail
          go_ret2
          exact ⟨bel_new BB _, .inr ⟨rfl, _, _, rfl⟩⟩
end Go.Proofs.YtjmfefaoenmppaaGreatDoor.Fx

namespace Go.Proofs.YtjmfefaoenmppaaGreatDoor.Fx
open Go.RowKit

theorem own_set5t {W : World} {t : TypeId} {base g n cap k : Nat} {ps : List P5} {R : List Value} (h : W.ownsRow base t 5 (.slice (some ⟨g, 0, none⟩) n cap) n (flat (ps.take k) ++ P5z ++ R)) (hk : k < ps.length) {a c d e f : Int} (hp : ps[k] = ⟨a, c, d, e, f⟩) :
    (((((W.setCell ⟨g, k * 5, none⟩ (.int .i64 a)).setCell ⟨g, k * 5 + 1, none⟩ (.int .i64 c)).setCell ⟨g, k * 5 + 2, none⟩ (.int .i64 d)).setCell ⟨g, k * 5 + 3, none⟩ (.int .i64 e)).setCell ⟨g, k * 5 + 4, none⟩ (.int .i64 f)).ownsRow base t 5 (.slice (some ⟨g, 0, none⟩) n cap) n (flat (ps.take (k + 1)) ++ R) := by
  have h5 := ((((((h.stored (k * 5) (.int .i64 a)).1).stored (k * 5 + 1) (.int .i64 c)).1).stored (k * 5 + 2) (.int .i64 d)).1.stored (k * 5 + 3) (.int .i64 e)).1.stored (k * 5 + 4) (.int .i64 f)
  have h6 := h5.1
  have hl : (flat (ps.take k)).length = k * 5 := by rw [flat_len, List.length_take]; omega
  rw [show flat (ps.take k) ++ P5z ++ R = flat (ps.take k) ++ (.int .i64 0) :: (.int .i64 0) :: (.int .i64 0) :: (.int .i64 0) :: (.int .i64 0) :: R by simp [P5z], set_five _ R (k * 5) hl] at h6
  rw [flat_more ps k hk, hp]
  simpa [P5.cells] using h6
theorem own_cells5t {W : World} {t : TypeId} {base g n cap k : Nat} {ps : List P5} {R : List Value} (h : W.ownsRow base t 5 (.slice (some ⟨g, 0, none⟩) n cap) n (flat (ps.take k) ++ P5z ++ R)) (hk : k < ps.length) (hn : k < n) :
    W.cell? ⟨g, k * 5, none⟩ = some (.int .i64 0) ∧ W.cell? ⟨g, k * 5 + 1, none⟩ = some (.int .i64 0) ∧ W.cell? ⟨g, k * 5 + 2, none⟩ = some (.int .i64 0) ∧ W.cell? ⟨g, k * 5 + 3, none⟩ = some (.int .i64 0) ∧ W.cell? ⟨g, k * 5 + 4, none⟩ = some (.int .i64 0) := by
  have hl : (flat (ps.take k)).length = k * 5 := by rw [flat_len, List.length_take]; omega
  have g0 : ∀ i, i < 5 → W.cell? ⟨g, k * 5 + i, none⟩ = some (.int .i64 0) := fun i hi => by
    rw [h.cellAt (k * 5 + i) (by omega), List.append_assoc, List.getElem?_append_right (by omega), hl, show k * 5 + i - k * 5 = i by omega]
    rcases (show i = 0 ∨ i = 1 ∨ i = 2 ∨ i = 3 ∨ i = 4 by omega) with rfl | rfl | rfl | rfl | rfl <;> rfl
  exact ⟨g0 0 (by decide), g0 1 (by decide), g0 2 (by decide), g0 3 (by decide), g0 4 (by decide)⟩
theorem own_range {W : World} {t : TypeId} {base g n cap : Nat} {xs : List Value} (h : W.ownsRow base t 5 (.slice (some ⟨g, 0, none⟩) n cap) n xs) : W.rangeAt g 0 xs := fun j v hv => by
  have hj : j < xs.length := (List.getElem?_eq_some_iff.1 hv).1
  rw [Nat.zero_add, h.cellAt j (by have := h.1; omega), hv]

theorem four_of (ps : List P5) (h : ps.length = 4) : ∃ a0 b0 c0 d0 e0 a1 b1 c1 d1 e1 a2 b2 c2 d2 e2 a3 b3 c3 d3 e3 : Int, ps = [(⟨a0, b0, c0, d0, e0⟩ : P5), (⟨a1, b1, c1, d1, e1⟩ : P5), (⟨a2, b2, c2, d2, e2⟩ : P5), (⟨a3, b3, c3, d3, e3⟩ : P5)] := by
  match ps, h with
  | [⟨a0, b0, c0, d0, e0⟩, ⟨a1, b1, c1, d1, e1⟩, ⟨a2, b2, c2, d2, e2⟩, ⟨a3, b3, c3, d3, e3⟩], _ => exact ⟨_, _, _, _, _, _, _, _, _, _, _, _, _, _, _, _, _, _, _, _, rfl⟩

set_option maxRecDepth 100000 in
set_option maxHeartbeats 4000000 in
theorem impl_fanget (s : ByteArray) (w : World) (hs : s.size ≤ 1048576) (hE : Env w) : Calls Tryz.prog 119 #[.string s] w (FanPost (fanR s) 158 w) := by
  have hC := splitN_any s 44 5 w hs hE.2.2 (by decide) (by decide)
  rw [show ((5 : Nat) : Int) = 5 from rfl] at hC
  have hone := split_one 44 4 s (by decide)
  obtain ⟨qs, hqs⟩ : ∃ qs, qs = Lib.splitB ⟨#[44]⟩ 0 (min 5 (s.size + 1) - 1) s := ⟨_, rfl⟩
  rw [← hqs] at hC
  rw [show (4 : Nat) + 1 = 5 from rfl, ← hqs] at hone
  have hsz := cutsB_short 44 s
  have hyes := @fanR_yes s
  have hno := @fanR_no s
  obtain ⟨ps, hps⟩ : ∃ ps, ps = cutsB 44 s := ⟨_, rfl⟩
  rw [← hps] at hone hsz hyes hno
  obtain ⟨r, hr⟩ : ∃ r, r = fanR s := ⟨_, rfl⟩
  rw [← hr] at hyes hno ⊢
  clear hps hr hqs
  rcases hone with ⟨h4, rfl⟩ | ⟨h4, h4q⟩
  · have hpl : (qs.map rdP).length = 4 := by simpa using h4
    rw [h4] at hC
    go_enter Tryz.func119, Tryz.ntmps119
    go_wp2_with (go_at_call 135; refine hC.mono ?_; rintro e w1 ⟨g, cp, rfl, hA, hb1⟩; refine Hid.out ?_)
    refine Lib.hid ?_
    have hg1 : g < w1.heap.size := by
      obtain ⟨b, off, e, hlt, _⟩ := hA (by omega)
      cases e
      exact hlt
    have o1 := World.ownsRow_lit (e := 158) (size := 5) (base := w1.heap.size) w1 #[.int .i64 0, .int .i64 0, .int .i64 0, .int .i64 0, .int .i64 0, .int .i64 0, .int .i64 0, .int .i64 0, .int .i64 0, .int .i64 0, .int .i64 0, .int .i64 0, .int .i64 0, .int .i64 0, .int .i64 0, .int .i64 0, .int .i64 0, .int .i64 0, .int .i64 0, .int .i64 0] 4 (Nat.le_refl _) (by decide) rfl
    rw [show (#[.int .i64 0, .int .i64 0, .int .i64 0, .int .i64 0, .int .i64 0, .int .i64 0, .int .i64 0, .int .i64 0, .int .i64 0, .int .i64 0, .int .i64 0, .int .i64 0, .int .i64 0, .int .i64 0, .int .i64 0, .int .i64 0, .int .i64 0, .int .i64 0, .int .i64 0, .int .i64 0] : Array Value).toList = flat ((qs.map rdP).take 0) ++ zeros (4 - 0) from rfl] at o1
    have B1 := bel_fresh2 w1 (o := .cells #[.int .i64 0, .int .i64 0, .int .i64 0, .int .i64 0, .int .i64 0, .int .i64 0, .int .i64 0, .int .i64 0, .int .i64 0, .int .i64 0, .int .i64 0, .int .i64 0, .int .i64 0, .int .i64 0, .int .i64 0, .int .i64 0, .int .i64 0, .int .i64 0, .int .i64 0, .int .i64 0] 158)
    clear hC
    go_wp2_with fail
    go_loopg [17] 4 (fun gh i wr => ∃ (j : Nat), gh = 4 - j ∧ j ≤ 4 ∧ i = .int .i64 j ∧ (∀ k (hk : k < qs.length), k < j → rdOk qs[k] = true) ∧ wr.ownsRow w1.heap.size 158 5 (.slice (some ⟨w1.heap.size, 0, none⟩) 4 4) 4 (flat ((qs.map rdP).take j) ++ zeros (4 - j)) ∧ Below w1.heap.size w1 wr)
    case atStart => exact ⟨0, by omega, by omega, rfl, by omega, o1, B1⟩
    case round =>
      clear o1 B1
      obtain ⟨j, hg, hj, rfl, hok, ho, hb⟩ := hrel
      have HG := Lib.hid hg
      clear hg
      by_cases hlt : j < 4
      · have hlt' : (j : Int) < 4 := by omega
        have hlq : j < qs.length := by omega
        have hlp : j < (qs.map rdP).length := by omega
        obtain ⟨b9, off9, e9, hlb, hc9⟩ := (hA.below hb) (by omega)
        obtain ⟨rfl, rfl⟩ : b9 = g ∧ off9 = 0 := by cases e9; exact ⟨rfl, rfl⟩
        have hck := hc9 j hlq
        rw [Nat.zero_add] at hck
        have hpj := hsz qs[j] (List.getElem_mem _)
        have hEw := hE.at (bel_then hb1 hb)
        have hP := impl_pget qs[j] wr (by omega) hEw
        obtain ⟨a, c, d, e, f, hp⟩ : ∃ a c d e f, rdP qs[j] = ⟨a, c, d, e, f⟩ := ⟨_, _, _, _, _, rfl⟩
        have hp2 : (qs.map rdP)[j] = ⟨a, c, d, e, f⟩ := by rw [List.getElem_map, hp]
        obtain ⟨o, hoo⟩ : ∃ o, o = rdOk qs[j] := ⟨_, rfl⟩
        have hP2 : Calls Tryz.prog 136 #[.string qs[j]] wr fun e' w' => e' = .returned (.tuple #[.agg #[.int .i64 a, .int .i64 c, .int .i64 d, .int .i64 e, .int .i64 f], .bool o]) ∧ Below wr.heap.size wr w' := hP.mono fun e' w' ⟨h1, h2⟩ => ⟨by rw [h1, hoo]; unfold rdOk; have : (ptrG qs[j]).1 = ⟨a, c, d, e, f⟩ := hp; rw [this]; rfl, h2⟩
        cases o with
        | false =>
          have hv : r = ([], false) := hno (fun h => by
            have := h.2.1 _ (List.getElem_mem hlq)
            rw [← hoo] at this
            exact absurd this (by decide))
          subst hv
          obtain ⟨q, hq⟩ : ∃ q, q = qs[j] := ⟨_, rfl⟩
          rw [← hq] at hP2 hck
          clear hP hpj hp hp2 hq hoo hok hno hyes hsz hc9 e9 hE hEw
          go_wp2_with (go_at_call 136; refine hP2.mono ?_; rintro r w2 ⟨rfl, hb2⟩)
          go_ret2
          exact ⟨bel_new (bel_then (bel_then hb1 hb) hb2) _, .inr ⟨rfl, _, _, rfl⟩⟩
        | true =>
          have HK : Hid (∀ k (hk : k < qs.length), k < j + 1 → rdOk qs[k] = true) := Lib.hid (fun k hk hkj => by
            by_cases e1 : k = j
            · subst e1; exact hoo.symm
            · exact hok k hk (by omega))
          obtain ⟨m, hm⟩ : ∃ m, 4 - j = m + 1 := ⟨3 - j, by omega⟩
          have HM : Hid (4 - (j + 1) = m) := Lib.hid (by omega)
          rw [hm, zeros_succ, ← List.append_assoc] at ho
          have HP2 := Lib.hid hp2
          obtain ⟨q, hq⟩ : ∃ q, q = qs[j] := ⟨_, rfl⟩
          rw [← hq] at hP2 hck
          clear hP hpj hp hp2 hq hoo hok hno hyes hsz hc9 e9 hE hEw hm
          go_wp2_with (go_at_call 136; refine hP2.mono ?_; rintro r w2 ⟨rfl, hb2⟩; have ho2 := (own_below5 ho hb2).alloc (.cells #[.int .i64 a, .int .i64 c, .int .i64 d, .int .i64 e, .int .i64 f] 40); have B2 := bel_new (bel_then hb hb2) (.cells #[.int .i64 a, .int .i64 c, .int .i64 d, .int .i64 e, .int .i64 f] 40); obtain ⟨z0, z1, z2, z3, z4⟩ := own_cells5t ho2 hlp hlt; have f0 := ho2.frozenAt (j * 5); have f1 := ho2.frozenAt (j * 5 + 1); have f2 := ho2.frozenAt (j * 5 + 2); have f3 := ho2.frozenAt (j * 5 + 3); have f4 := ho2.frozenAt (j * 5 + 4))
          have R := own_set5t ho2 hlp HP2.out
          have B5 := ((((B2.setCell (p := ⟨w1.heap.size, j * 5, none⟩) (Nat.le_refl _) (.int .i64 a)).setCell (p := ⟨w1.heap.size, j * 5 + 1, none⟩) (Nat.le_refl _) (.int .i64 c)).setCell (p := ⟨w1.heap.size, j * 5 + 2, none⟩) (Nat.le_refl _) (.int .i64 d)).setCell (p := ⟨w1.heap.size, j * 5 + 3, none⟩) (Nat.le_refl _) (.int .i64 e)).setCell (p := ⟨w1.heap.size, j * 5 + 4, none⟩) (Nat.le_refl _) (.int .i64 f)
          clear ho2 B2 z0 z1 z2 z3 z4 f0 f1 f2 f3 f4 hb hb2 ho
          go_roundg (4 - (j + 1))
          case measure => have := HG.out; omega
          case rel => exact ⟨j + 1, rfl, by omega, by go_num, HK.out, by rw [HM.out]; exact R, B5⟩
      · obtain rfl : j = 4 := by omega
        have hall : ∀ q ∈ qs, rdOk q = true := fun q hq => by
          obtain ⟨k, hk, rfl⟩ := List.getElem_of_mem hq
          exact hok k hk (by omega)
        have hy2 := hyes h4 hall
        have hn2 : someP (qs.map rdP) = false → r = ([], false) := fun h => hno (fun h2 => by rw [h] at h2; exact absurd h2.2.2 (by decide))
        rw [List.take_of_length_le (by omega), show zeros (4 - 4) = [] from rfl, List.append_nil] at ho
        obtain ⟨a0, b0, c0, d0, e0, a1, b1, c1, d1, e1, a2, b2, c2, d2, e2, a3, b3, c3, d3, e3, hps⟩ := four_of (qs.map rdP) hpl
        rw [hps] at ho hy2 hn2
        have hR := own_range ho
        rw [show flat [(⟨a0, b0, c0, d0, e0⟩ : P5), (⟨a1, b1, c1, d1, e1⟩ : P5), (⟨a2, b2, c2, d2, e2⟩ : P5), (⟨a3, b3, c3, d3, e3⟩ : P5)] = [.int .i64 a0, .int .i64 b0, .int .i64 c0, .int .i64 d0, .int .i64 e0, .int .i64 a1, .int .i64 b1, .int .i64 c1, .int .i64 d1, .int .i64 e1, .int .i64 a2, .int .i64 b2, .int .i64 c2, .int .i64 d2, .int .i64 e2, .int .i64 a3, .int .i64 b3, .int .i64 c3, .int .i64 d3, .int .i64 e3] from rfl] at hR
        have hM := fun W => m_empty a0 b0 c0 d0 e0 a1 b1 c1 d1 e1 a2 b2 c2 d2 e2 a3 b3 c3 d3 e3 W
        have hiff : someP [(⟨a0, b0, c0, d0, e0⟩ : P5), (⟨a1, b1, c1, d1, e1⟩ : P5), (⟨a2, b2, c2, d2, e2⟩ : P5), (⟨a3, b3, c3, d3, e3⟩ : P5)] = !(isHole a0 b0 c0 d0 e0 && isHole a1 b1 c1 d1 e1 && isHole a2 b2 c2 d2 e2 && isHole a3 b3 c3 d3 e3) := by simp [someP, P5.hole, Bool.or_assoc]
        obtain ⟨z, hz⟩ : ∃ z, z = (isHole a0 b0 c0 d0 e0 && isHole a1 b1 c1 d1 e1 && isHole a2 b2 c2 d2 e2 && isHole a3 b3 c3 d3 e3) := ⟨_, rfl⟩
        rw [← hz] at hM hiff
        rw [hiff] at hy2 hn2
        have B1 := bel_then hb1 hb
        cases z with
        | true =>
          have hv := hn2 rfl
          subst hv
          clear hy2 hn2 hiff hz hps ho hall hok hno hyes hE
          go_wp2_with (first | (refine wpList_load_mid rfl 158 _ rfl w1.heap.size 0 rfl [.int .i64 a0, .int .i64 b0, .int .i64 c0, .int .i64 d0, .int .i64 e0, .int .i64 a1, .int .i64 b1, .int .i64 c1, .int .i64 d1, .int .i64 e1, .int .i64 a2, .int .i64 b2, .int .i64 c2, .int .i64 d2, .int .i64 e2, .int .i64 a3, .int .i64 b3, .int .i64 c3, .int .i64 d3, .int .i64 e3] _ (by assumption) Tryz.underlying158 rfl (info158 _ _ _ _ _ _ _ _ _ _ _ _ _ _ _ _ _ _ _ _) ?_) | (go_at_call 137; refine (hM _).mono ?_; rintro r w2 ⟨rfl, hb2⟩))
          go_ret2
          exact ⟨bel_then B1 hb2, .inr ⟨rfl, _, _, rfl⟩⟩
        | false =>
          have hv := hy2 rfl
          subst hv
          have HO := Lib.hid ho
          clear hy2 hn2 hiff hz hps ho hall hok hno hyes hE
          go_wp2_with (first | (refine wpList_load_mid rfl 158 _ rfl w1.heap.size 0 rfl [.int .i64 a0, .int .i64 b0, .int .i64 c0, .int .i64 d0, .int .i64 e0, .int .i64 a1, .int .i64 b1, .int .i64 c1, .int .i64 d1, .int .i64 e1, .int .i64 a2, .int .i64 b2, .int .i64 c2, .int .i64 d2, .int .i64 e2, .int .i64 a3, .int .i64 b3, .int .i64 c3, .int .i64 d3, .int .i64 e3] _ (by assumption) Tryz.underlying158 rfl (info158 _ _ _ _ _ _ _ _ _ _ _ _ _ _ _ _ _ _ _ _) ?_) | (go_at_call 137; refine (hM _).mono ?_; rintro r w2 ⟨rfl, hb2⟩))
          go_ret2
          exact ⟨bel_then B1 hb2, .inl ⟨rfl, w1.heap.size, 4, rfl, own_base (own_below5 HO.out hb2) hb1.size⟩⟩
  · have hq4 : ((qs.length : Int) != 4) = true := by rw [bne_iff_ne]; omega
    have hv : r = ([], false) := hno (fun h => h4 h.1)
    subst hv
    obtain ⟨n, hn⟩ : ∃ n, n = qs.length := ⟨_, rfl⟩
    rw [← hn] at hC hq4
    clear h4 h4q hn hyes hno hsz
    go_enter Tryz.func119, Tryz.ntmps119
    go_wp2_with (go_at_call 135; refine hC.mono ?_; rintro e w1 ⟨g, cp, rfl, hA, hb1⟩)
    go_ret2
    exact ⟨hb1, .inr ⟨rfl, _, _, rfl⟩⟩
end Go.Proofs.YtjmfefaoenmppaaGreatDoor.Fx
