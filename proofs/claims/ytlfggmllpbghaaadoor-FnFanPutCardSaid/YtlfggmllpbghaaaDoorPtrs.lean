/-
  Lists of pointers: how they lie in memory, and the text of an indirect block.
-/
import Derived.Test.YtlfggmllpbghaaaDoorFanB
import Derived.Test.YtlfggmllpbghaaaDoorGetPut
namespace Go.Proofs.YtlfggmllpbghaaaDoor
open Go.RowKit

def P5.text (p : P5) : List UInt8 := putT p.a p.b p.c p.d p.e
def P5.cells (p : P5) : List Value := [.int .i64 p.a, .int .i64 p.b, .int .i64 p.c, .int .i64 p.d, .int .i64 p.e]
def flat (ps : List P5) : List Value := ps.flatMap P5.cells
theorem flat_len (ps : List P5) : (flat ps).length = 5 * ps.length := by
  induction ps with
  | nil => rfl
  | cons p ps ih =>
    show (P5.cells p ++ flat ps).length = _
    rw [List.length_append, ih, List.length_cons]
    show 5 + _ = _
    omega
theorem flat_at : ∀ (ps : List P5) (j k : Nat) (hj : j < ps.length), k < 5 → (flat ps)[5 * j + k]? = (P5.cells ps[j])[k]?
  | p :: ps, 0, k, _, hk => by
    show (P5.cells p ++ flat ps)[5 * 0 + k]? = _
    rw [List.getElem?_append_left (by show 5 * 0 + k < 5; omega)]
    simp
  | p :: ps, j + 1, k, hj, hk => by
    show (P5.cells p ++ flat ps)[5 * (j + 1) + k]? = _
    rw [List.getElem?_append_right (by show 5 ≤ 5 * (j + 1) + k; omega), show 5 * (j + 1) + k - (P5.cells p).length = 5 * j + k by show 5 * (j + 1) + k - 5 = _; omega, flat_at ps j k (by simpa using hj) hk]
    rfl
/-- The pointers ps lie in block b, from its head on. -/
def PtrsAt (W : World) (b : Nat) (ps : List P5) : Prop := b < W.heap.size ∧ W.rangeAt b 0 (flat ps)
theorem PtrsAt.below {W W' : World} {b : Nat} {ps : List P5} (h : PtrsAt W b ps) (hb : Below W.heap.size W W') : PtrsAt W' b ps :=
  ⟨Nat.lt_of_lt_of_le h.1 hb.size, fun j v hv => (hb.cell h.1).trans (h.2 j v hv)⟩
theorem PtrsAt.cell {W : World} {b : Nat} {ps : List P5} (h : PtrsAt W b ps) (j : Nat) (hj : j < ps.length) {a c d e f : Int} (hp : ps[j] = ⟨a, c, d, e, f⟩) :
    W.cell? ⟨b, j * 5, none⟩ = some (.int .i64 a) ∧ W.cell? ⟨b, j * 5 + 1, none⟩ = some (.int .i64 c) ∧ W.cell? ⟨b, j * 5 + 2, none⟩ = some (.int .i64 d) ∧ W.cell? ⟨b, j * 5 + 3, none⟩ = some (.int .i64 e) ∧ W.cell? ⟨b, j * 5 + 4, none⟩ = some (.int .i64 f) := by
  have g : ∀ k v, k < 5 → (P5.cells ps[j])[k]? = some v → W.cell? ⟨b, j * 5 + k, none⟩ = some v := fun k v hk hv => by
    have := h.2 (5 * j + k) v ((flat_at ps j k hj hk).trans hv)
    rwa [Nat.zero_add, Nat.mul_comm] at this
  rw [hp] at g
  exact ⟨g 0 _ (by decide) rfl, g 1 _ (by decide) rfl, g 2 _ (by decide) rfl, g 3 _ (by decide) rfl, g 4 _ (by decide) rfl⟩

theorem PtrsAt.cell0 {W : World} {b : Nat} {ps : List P5} (h : PtrsAt W b ps) (hj : 0 < ps.length) {a c d e f : Int} (hp : ps[0] = ⟨a, c, d, e, f⟩) :
    W.cell? ⟨b, 0, none⟩ = some (.int .i64 a) ∧ W.cell? ⟨b, 1, none⟩ = some (.int .i64 c) ∧ W.cell? ⟨b, 2, none⟩ = some (.int .i64 d) ∧ W.cell? ⟨b, 3, none⟩ = some (.int .i64 e) ∧ W.cell? ⟨b, 4, none⟩ = some (.int .i64 f) := h.cell 0 hj hp

/-- Texts with a comma between. -/
def joinP : List (List UInt8) → List UInt8
  | [] => []
  | x :: xs => x ++ xs.flatMap (fun y => 44 :: y)
theorem joinP_snoc (xs : List (List UInt8)) (y : List UInt8) (h : xs ≠ []) : joinP (xs ++ [y]) = joinP xs ++ [44] ++ y := by
  cases xs with
  | nil => exact absurd rfl h
  | cons x xs => simp [joinP]
theorem join_is (a b c d : List UInt8) : Lib.join [a, b, c, d] [44] = joinP [a, b, c, d] := by simp [Lib.join, List.intercalate, List.intersperse, joinP]
def textOf (ps : List P5) : List UInt8 := joinP (ps.map P5.text)
theorem textOf_nil : textOf [] = [] := rfl
theorem textOf_one (ps : List P5) (j : Nat) (hj : j < ps.length) (h0 : j = 0) : textOf (ps.take (j + 1)) = ps[j].text := by
  subst h0
  cases ps with
  | nil => simp at hj
  | cons p ps => simp [textOf, joinP]
theorem textOf_more (ps : List P5) (j : Nat) (hj : j < ps.length) (h0 : j ≠ 0) : textOf (ps.take (j + 1)) = textOf (ps.take j) ++ [44] ++ ps[j].text := by
  unfold textOf
  rw [List.take_succ_eq_append_getElem hj, List.map_append, List.map_cons, List.map_nil, joinP_snoc _ _ (by
    intro e
    have := congrArg List.length e
    rw [List.length_map, List.length_take, List.length_nil] at this
    omega)]
theorem textOf_short (ps : List P5) : (textOf ps).length ≤ 50 * ps.length := by
  unfold textOf
  cases ps with
  | nil => simp [joinP]
  | cons p ps =>
    have hp := putT_short p.a p.b p.c p.d p.e
    have : ∀ qs : List P5, ((qs.map P5.text).flatMap (fun y => 44 :: y)).length ≤ 50 * qs.length := by
      intro qs
      induction qs with
      | nil => simp
      | cons q qs ih =>
        have hq := putT_short q.a q.b q.c q.d q.e
        rw [List.map_cons, List.flatMap_cons, List.length_append, List.length_cons, List.length_cons]
        have : (P5.text q).length ≤ 49 := hq
        omega
    have h2 := this ps
    rw [List.map_cons, joinP, List.length_append, List.length_cons]
    have : (P5.text p).length ≤ 49 := hp
    omega

def allOk (ps : List P5) : Prop := ∀ p ∈ ps, p.ok = true
def someP (ps : List P5) : Bool := ps.any fun p => !p.hole
theorem someP_more (ps : List P5) (j : Nat) (hj : j < ps.length) : someP (ps.take (j + 1)) = (someP (ps.take j) || !ps[j].hole) := by
  unfold someP
  rw [List.take_succ_eq_append_getElem hj, List.any_append]
  simp
/-- What FanPut answers. -/
def fanG (ps : List P5) : ByteArray × Bool := if ps.length = 4 ∧ (∀ p ∈ ps, p.ok = true) ∧ someP ps = true then (strOf (textOf ps), true) else (⟨#[]⟩, false)
theorem fanG_yes {ps : List P5} (h : ps.length = 4) (h1 : ∀ p ∈ ps, p.ok = true) (h2 : someP ps = true) : fanG ps = (strOf (textOf ps), true) := if_pos ⟨h, h1, h2⟩
theorem fanG_no {ps : List P5} (h : ¬ (ps.length = 4 ∧ (∀ p ∈ ps, p.ok = true) ∧ someP ps = true)) : fanG ps = (⟨#[]⟩, false) := if_neg h
end Go.Proofs.YtlfggmllpbghaaaDoor
