/-
  Nodes: pointers as five numbers, how deep a tree is, how many pieces there are, and when a node is formed. Pure.
-/
import Derived.RowKit
namespace Go.Proofs.YtehmaacbmkfedaaDoor

def inB (n lo hi : Int) : Bool := decide (lo ≤ n ∧ n ≤ hi)
theorem inB_yes {n lo hi : Int} (h : lo ≤ n ∧ n ≤ hi) : inB n lo hi = true := by simp [inB, h]
theorem inB_no {n lo hi : Int} (h : ¬ (lo ≤ n ∧ n ≤ hi)) : inB n lo hi = false := by simp only [inB, decide_eq_false_iff_not]; exact h
def same (a b c d e a' b' c' d' e' : Int) : Bool := a == a' && b == b' && c == c' && d == d' && e == e'
def isHole (a b c d e : Int) : Bool := same a b c d e 0 0 0 0 0
def isOk (a b c d e : Int) : Bool := isHole a b c d e || (inB a 8 63 && inB b 1 900 && inB c 1 128 && inB d 0 99460728 && inB e 0 2)
structure P5 where
  a : Int
  b : Int
  c : Int
  d : Int
  e : Int
def P5.zero : P5 := ⟨0, 0, 0, 0, 0⟩
def P5.hole (p : P5) : Bool := isHole p.a p.b p.c p.d p.e
def P5.ok (p : P5) : Bool := isOk p.a p.b p.c p.d p.e
theorem inB_iff {n lo hi : Int} : inB n lo hi = true ↔ lo ≤ n ∧ n ≤ hi := by simp [inB]
theorem P5.hole_zero {p : P5} (h : p.hole = true) : p.a = 0 ∧ p.b = 0 := by
  unfold P5.hole isHole same at h
  simp only [Bool.and_eq_true, beq_iff_eq] at h
  omega
theorem P5.ok_bounds {p : P5} (h : p.ok = true) (hh : p.hole = false) : (8 ≤ p.a ∧ p.a ≤ 63) ∧ (1 ≤ p.b ∧ p.b ≤ 900) ∧ (1 ≤ p.c ∧ p.c ≤ 128) ∧ (0 ≤ p.d ∧ p.d ≤ 99460728) ∧ 0 ≤ p.e ∧ p.e ≤ 2 := by
  unfold P5.hole at hh
  unfold P5.ok isOk at h
  rw [hh] at h
  simp only [Bool.false_or, Bool.and_eq_true, inB_iff] at h
  omega
theorem P5.ok_row {p : P5} (h : p.ok = true) : 0 ≤ p.a ∧ p.a ≤ 63 := by
  cases hh : p.hole with
  | true => have := P5.hole_zero hh; omega
  | false => have := P5.ok_bounds h hh; omega


def depthOf (many : Int) : Nat := if many ≤ 1 then 0 else if many ≤ 4 then 1 else 2
theorem depthOf_le (m : Int) : depthOf m ≤ 2 := by unfold depthOf; split <;> (try split) <;> omega

/-- A node: its kind, its names, its size, and its tree. -/
structure Nd where
  kind : Int
  links : Int
  size : Int
  root : P5
  depth : Int
  many : Int
def Nd.zero : Nd := ⟨0, 0, 0, .zero, 0, 0⟩
/-- How many pieces a node of a kind and a size has; less than nought where there is none. -/
def pieces (kind size : Int) : Int :=
  if kind = 1 then (if 0 ≤ size ∧ size ≤ 192 then (size + 11) / 12 else -1)
  else if kind = 2 then (if 0 ≤ size ∧ size ≤ 2048 then (size + 127) / 128 else -1) else -1
theorem pieces_file {size : Int} (h : 0 ≤ size ∧ size ≤ 192) : pieces 1 size = (size + 11) / 12 := by
  unfold pieces; rw [if_pos rfl, if_pos h]
theorem pieces_file_no {size : Int} (h : ¬ (0 ≤ size ∧ size ≤ 192)) : pieces 1 size = -1 := by
  unfold pieces; rw [if_pos rfl, if_neg h]
theorem pieces_folder {size : Int} (h : 0 ≤ size ∧ size ≤ 2048) : pieces 2 size = (size + 127) / 128 := by
  unfold pieces; rw [if_neg (by decide), if_pos rfl, if_pos h]
theorem pieces_folder_no {size : Int} (h : ¬ (0 ≤ size ∧ size ≤ 2048)) : pieces 2 size = -1 := by
  unfold pieces; rw [if_neg (by decide), if_pos rfl, if_neg h]
theorem pieces_none {kind size : Int} (h1 : kind ≠ 1) (h2 : kind ≠ 2) : pieces kind size = -1 := by
  unfold pieces; rw [if_neg h1, if_neg h2]
theorem pieces_bd (kind size : Int) : -1 ≤ pieces kind size ∧ pieces kind size ≤ 16 := by
  unfold pieces
  split
  · split <;> omega
  · split
    · split <;> omega
    · omega
/-- The greatest number of names of a kind. -/
def topOf (kind : Int) : Int := if kind = 2 then 1 else 9
/-- Whether a tree is formed. -/
def formB (root : P5) (depth many : Int) : Bool := inB many 0 16 && depth == (depthOf many : Int) && root.ok && (root.hole || root.e == depth)
def nodeOk (n : Nd) : Bool := inB (pieces n.kind n.size) 0 16 && inB n.links 1 (topOf n.kind) && formB n.root n.depth n.many && n.many == pieces n.kind n.size
theorem nodeOk_kind {n : Nd} (h1 : n.kind ≠ 1) (h2 : n.kind ≠ 2) : nodeOk n = false := by
  unfold nodeOk
  rw [pieces_none h1 h2]
  rfl

end Go.Proofs.YtehmaacbmkfedaaDoor
