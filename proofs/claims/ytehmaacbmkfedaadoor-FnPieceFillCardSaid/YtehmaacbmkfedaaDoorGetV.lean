/-
  What PtrGet answers, as a function of the text; and the box in which a pointer is handed back.
-/
import Derived.Test.YtehmaacbmkfedaaDoorCutS
namespace Go.Proofs.YtehmaacbmkfedaaDoor
open Go.RowKit

def P5.val (p : P5) : Value := .agg #[.int .i64 p.a, .int .i64 p.b, .int .i64 p.c, .int .i64 p.d, .int .i64 p.e]
def isNum (s : ByteArray) : Bool := (numG s.data.toList).2
def numV (s : ByteArray) : Int := (numG s.data.toList).1
/-- The five numbers of a text. -/
def five (ps : List ByteArray) : P5 := ⟨numV (ps.getD 0 ⟨#[]⟩), numV (ps.getD 1 ⟨#[]⟩), numV (ps.getD 2 ⟨#[]⟩), numV (ps.getD 3 ⟨#[]⟩), numV (ps.getD 4 ⟨#[]⟩)⟩
def parts (s : ByteArray) : P5 × Bool := if (cutsB 46 s).length = 5 ∧ ∀ p ∈ cutsB 46 s, isNum p = true then (five (cutsB 46 s), true) else (.zero, false)
def ptrG (s : ByteArray) : P5 × Bool :=
  if s = ⟨#[45]⟩ then (.zero, true)
  else if (parts s).2 = true ∧ (parts s).1.ok = true ∧ (parts s).1.hole = false then ((parts s).1, true) else (.zero, false)

theorem parts_no {s : ByteArray} (h : ¬ ((cutsB 46 s).length = 5 ∧ ∀ p ∈ cutsB 46 s, isNum p = true)) : parts s = (.zero, false) := if_neg h
theorem parts_yes {s : ByteArray} (h : (cutsB 46 s).length = 5) (h2 : ∀ p ∈ cutsB 46 s, isNum p = true) : parts s = (five (cutsB 46 s), true) := if_pos ⟨h, h2⟩
theorem ptrG_hole : ptrG ⟨#[45]⟩ = (.zero, true) := if_pos rfl
theorem ptrG_no {s : ByteArray} (h : s ≠ ⟨#[45]⟩) (h2 : (parts s).2 = false) : ptrG s = (.zero, false) := by
  unfold ptrG
  rw [if_neg h, if_neg (by rw [h2]; simp)]
theorem ptrG_bad {s : ByteArray} (h : s ≠ ⟨#[45]⟩) (h2 : (parts s).1.ok = false) : ptrG s = (.zero, false) := by
  unfold ptrG
  rw [if_neg h, if_neg (by rw [h2]; simp)]
theorem ptrG_zero {s : ByteArray} (h : s ≠ ⟨#[45]⟩) (h2 : (parts s).1.hole = true) : ptrG s = (.zero, false) := by
  unfold ptrG
  rw [if_neg h, if_neg (by rw [h2]; simp)]
theorem ptrG_yes {s : ByteArray} (h : s ≠ ⟨#[45]⟩) (h1 : (parts s).2 = true) (h2 : (parts s).1.ok = true) (h3 : (parts s).1.hole = false) : ptrG s = ((parts s).1, true) := by
  unfold ptrG
  rw [if_neg h, if_pos ⟨h1, h2, h3⟩]

theorem str_is {s t : ByteArray} (h : s = t) : (s.toList == t.toList) = true := by rw [h]; simp
theorem str_isnt {s t : ByteArray} (h : s ≠ t) : (s.toList == t.toList) = false := by
  rw [beq_eq_false_iff_ne, ByteArray.toList_eq, ByteArray.toList_eq]
  exact fun e => h (bytes_inj e)

/-- The box of a result: five zeros. -/
def RBox (g : Nat) (W : World) : Prop := W.heap[g]? = some (.cells #[.int .i64 0, .int .i64 0, .int .i64 0, .int .i64 0, .int .i64 0] 29 (0, 0))
theorem RBox.lt {g : Nat} {W : World} (h : RBox g W) : g < W.heap.size := (Array.getElem?_eq_some_iff.1 h).1
theorem RBox.new {W w' : World} (hb : Below (W.alloc (.cells #[.int .i64 0, .int .i64 0, .int .i64 0, .int .i64 0, .int .i64 0] 29)).heap.size (W.alloc (.cells #[.int .i64 0, .int .i64 0, .int .i64 0, .int .i64 0, .int .i64 0] 29)) w') : RBox W.heap.size w' :=
  (hb.block _ (by simp)).trans (heap_alloc_new W _)
theorem RBox.next {g : Nat} {W W' : World} (h : RBox g W) (hb : Below W.heap.size W W') : RBox g W' := (hb.block g h.lt).trans h
theorem RBox.cell {g : Nat} {W : World} (h : RBox g W) (k : Nat) (hk : k < 5) : W.cell? ⟨g, k, none⟩ = some (.int .i64 0) := by
  have h2 := h
  unfold RBox at h2
  rcases (show k = 0 ∨ k = 1 ∨ k = 2 ∨ k = 3 ∨ k = 4 by omega) with rfl | rfl | rfl | rfl | rfl <;> simp [World.cell?, h2]
theorem RBox.free {g : Nat} {W : World} (h : RBox g W) (k : Nat) : W.frozen? ⟨g, k, none⟩ = false := by
  have h2 := h
  unfold RBox at h2
  simp [World.frozen?, h2]

theorem Tryd.info3 : (Tryd.prog.info? 3).map (fun i => (i.zero, i.size, i.bytes)) = some (some (.int .i64 0), 1, 8) := by kernel_rfl
def intCells (ps : List ByteArray) : List Value := ps.map fun p => .int .i64 (numV p)
theorem own_int {w : World} {base : Nat} {v : Value} {ps : List ByteArray} {p : ByteArray} (h : w.ownsRow base 3 1 v (ps.length + 1) (intCells ps ++ [.int .i64 (numV p)])) : w.ownsRow base 3 1 v (ps ++ [p]).length (intCells (ps ++ [p])) := by
  rw [List.length_append, List.length_singleton, show intCells (ps ++ [p]) = intCells ps ++ [.int .i64 (numV p)] by simp [intCells]]
  exact h
theorem take_more (ps : List ByteArray) (j : Nat) (h : j < ps.length) : ps.take (j + 1) = ps.take j ++ [ps[j]] := by
  rw [List.take_succ_eq_append_getElem h]

end Go.Proofs.YtehmaacbmkfedaaDoor
