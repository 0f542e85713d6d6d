/-
  The model's way of taking a reference, and of giving one back.
-/
import Derived.Test.YtmnamclndpfjnaaSpO
import Derived.Test.YtmnamclndpfjnaaCp
namespace Go.Proofs.Ytmnamclndpfjnaa
open Go.RowKit

/-- One number of a row of the call's own is written. -/
theorem own_put {W : World} {base p k c n : Nat} {xs : List Int} (h : W.ownsRow base 3 1 (.slice (some ⟨p, 0, none⟩) n c) n (intCells xs)) (x : Int) :
    (W.setCell ⟨p, k, none⟩ (.int .i64 x)).ownsRow base 3 1 (.slice (some ⟨p, 0, none⟩) n c) n (intCells (xs.set k x)) := by
  have := (h.stored k (.int .i64 x)).1
  rwa [intCells_set] at this
theorem own_addr2 {W : World} {base : Nat} {A B : Option Addr} {c e : Nat} {s : Sp} (h : SpOwn W base (.agg #[.slice A s.refs.length c, .slice B s.last.length e]) s) (h1 : 0 < s.refs.length) (h2 : 0 < s.last.length) :
    ∃ p q, A = some ⟨p, 0, none⟩ ∧ B = some ⟨q, 0, none⟩ ∧ p ≠ q ∧ base ≤ p ∧ base ≤ q ∧ p < W.heap.size ∧ q < W.heap.size ∧ W.ownsRow base 3 1 (.slice (some ⟨p, 0, none⟩) s.refs.length c) s.refs.length (intCells s.refs) ∧ W.ownsRow base 3 1 (.slice (some ⟨q, 0, none⟩) s.last.length e) s.last.length (intCells s.last) := by
  obtain ⟨u1, u2, e0, g1, g2, g3⟩ := h
  simp only [Value.agg.injEq, Array.mk.injEq, List.cons.injEq, and_true] at e0
  obtain ⟨rfl, rfl⟩ := e0
  obtain ⟨p, rfl⟩ := own_addr g1 h1
  obtain ⟨q, rfl⟩ := own_addr g2 h2
  exact ⟨p, q, rfl, rfl, fun e => g3 p rfl (by rw [e]; rfl), (g1.lt p rfl).1, (g2.lt q rfl).1, (g1.lt p rfl).2, (g2.lt q rfl).2, g1, g2⟩
theorem SpOwn.mk2 {W : World} {base p q : Nat} {c e : Nat} {s : Sp} (hne : p ≠ q) (h1 : W.ownsRow base 3 1 (.slice (some ⟨p, 0, none⟩) s.refs.length c) s.refs.length (intCells s.refs)) (h2 : W.ownsRow base 3 1 (.slice (some ⟨q, 0, none⟩) s.last.length e) s.last.length (intCells s.last)) :
    SpOwn W base (.agg #[.slice (some ⟨p, 0, none⟩) s.refs.length c, .slice (some ⟨q, 0, none⟩) s.last.length e]) s :=
  ⟨_, _, rfl, h1, h2, fun k e1 e2 => by
    simp only [Value.ownBlock, Option.some.injEq] at e1 e2
    exact hne (by omega)⟩
theorem cell_own {W : World} {base p n c : Nat} {xs : List Int} (h : W.ownsRow base 3 1 (.slice (some ⟨p, 0, none⟩) n c) n (intCells xs)) {k : Nat} {x : Int} (hk : k < xs.length) (hx : xs[k] = x) : W.cell? ⟨p, k, none⟩ = some (.int .i64 x) ∧ W.frozen? ⟨p, k, none⟩ = false := by
  have hl := h.1
  rw [intCells_len] at hl
  refine ⟨?_, h.frozenAt k⟩
  rw [h.cellAt k (by omega), intCells_at xs k hk, hx]

/-- What a valid space holds at a row. -/
theorem at_row {s : Sp} (h : SpOk s) {n : Int} (h0 : 0 ≤ n) (h1 : n < 64) : ∃ x y, useAt (usOf s) n = (x, y) ∧ s.refs[n.toNat]'(by rw [h.1]; omega) = x ∧ s.last[n.toNat]'(by rw [h.2.1]; omega) = y := by
  refine ⟨_, _, ?_, rfl, rfl⟩
  unfold useAt
  rw [if_pos h0, usOf_at h.1 h.2.1 _ (by omega), List.getD_eq_getElem?_getD, List.getD_eq_getElem?_getD, List.getElem?_eq_getElem (by rw [h.1]; omega), List.getElem?_eq_getElem (by rw [h.2.1]; omega)]
  rfl
theorem spOf_take {s : Sp} (h : SpOk s) (n t : Int) {x y : Int} (hu : useAt (usOf s) n = (x, y)) (ht : y < t) : spOf (takeU (usOf s) n t) = ⟨s.refs.set n.toNat (x + 1), s.last.set n.toNat t⟩ := by
  unfold takeU
  rw [hu, spOf_set, spOf_usOf (by rw [h.1, h.2.1])]
  simp only
  rw [Int.max_eq_right (by omega)]

end Go.Proofs.Ytmnamclndpfjnaa
