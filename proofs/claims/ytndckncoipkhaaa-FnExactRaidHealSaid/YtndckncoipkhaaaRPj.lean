/-
  What is read of a row, as a function of the disks: a column that is gone is any text that fits nothing.
-/
import Derived.Test.YtndckncoipkhaaaRRw
import Derived.Test.YtndckncoipkhaaaKJ
namespace Go.Proofs.Ytndckncoipkhaaa.Cut
open Go.RowKit

theorem col_same {x y z : ByteArray} {g : Bool} (h1 : Col x g y) (h2 : Col x g z) (h : Has x g (y.size)) : y = z := by
  rw [h1.yes h.1, h2.yes h.1]
/-- joinD does not look at what a column that is gone is read as. -/
theorem join_col {x0 x1 x2 y0 y1 y2 z0 z1 z2 : ByteArray} {g0 g1 g2 : Bool} (k0 : Col x0 g0 y0) (k1 : Col x1 g1 y1) (k2 : Col x2 g2 y2) (m0 : Col x0 g0 z0) (m1 : Col x1 g1 z1) (m2 : Col x2 g2 z2) {n : Nat} (h1 : 1 ≤ n) (h2 : n ≤ 128) (lost : Int) (hl : lost = -1 ∨ lost = 0 ∨ lost = 1) :
    joinD [y0, y1, y2] (n : Int) lost = joinD [z0, z1, z2] (n : Int) lost := by
  have hh : half n ≤ 128 := by have := half_le n; omega
  rcases hl with rfl | rfl | rfl
  · by_cases f : Has x0 g0 (half n) ∧ Has x1 g1 (n - half n)
    · rw [way_a h1 h2 ((k0.size hh).2 f.1) ((k1.size (by omega)).2 f.2), way_a h1 h2 ((m0.size hh).2 f.1) ((m1.size (by omega)).2 f.2), k0.yes f.1.1, k1.yes f.2.1, m0.yes f.1.1, m1.yes f.2.1]
    · rw [way_a_no h1 h2 (fun h => f ⟨(k0.size hh).1 h.1, (k1.size (by omega)).1 h.2⟩), way_a_no h1 h2 (fun h => f ⟨(m0.size hh).1 h.1, (m1.size (by omega)).1 h.2⟩)]
  · by_cases f : Has x1 g1 (n - half n) ∧ Has x2 g2 (half n)
    · rw [way_b h1 h2 ((k1.size (by omega)).2 f.1) ((k2.size hh).2 f.2), way_b h1 h2 ((m1.size (by omega)).2 f.1) ((m2.size hh).2 f.2), k1.yes f.1.1, k2.yes f.2.1, m1.yes f.1.1, m2.yes f.2.1]
    · rw [way_b_no h1 h2 (fun h => f ⟨(k1.size (by omega)).1 h.1, (k2.size hh).1 h.2⟩), way_b_no h1 h2 (fun h => f ⟨(m1.size (by omega)).1 h.1, (m2.size hh).1 h.2⟩)]
  · by_cases f : Has x0 g0 (half n) ∧ Has x2 g2 (half n)
    · rw [way_c h1 h2 ((k0.size hh).2 f.1) ((k2.size hh).2 f.2), way_c h1 h2 ((m0.size hh).2 f.1) ((m2.size hh).2 f.2), k0.yes f.1.1, k2.yes f.2.1, m0.yes f.1.1, m2.yes f.2.1]
    · rw [way_c_no h1 h2 (fun h => f ⟨(k0.size hh).1 h.1, (k2.size hh).1 h.2⟩), way_c_no h1 h2 (fun h => f ⟨(m0.size hh).1 h.1, (m2.size hh).1 h.2⟩)]
/-- The first of the three ways that joins a text that fits. -/
def firstFit (ys : List ByteArray) (a b c d e : Int) : Nat → ByteArray × Bool
  | 0 => (none8, false)
  | k + 1 =>
    let r := joinD ys c (1 - (k : Int))
    if r.2 = true ∧ fitsB a b c d e r.1 = true then (r.1, true) else firstFit ys a b c d e k
theorem first_col {x0 x1 x2 y0 y1 y2 z0 z1 z2 : ByteArray} {g0 g1 g2 : Bool} (k0 : Col x0 g0 y0) (k1 : Col x1 g1 y1) (k2 : Col x2 g2 y2) (m0 : Col x0 g0 z0) (m1 : Col x1 g1 z1) (m2 : Col x2 g2 z2) {n : Nat} (h1 : 1 ≤ n) (h2 : n ≤ 128) (a b d e : Int) : ∀ k, k ≤ 3 → firstFit [y0, y1, y2] a b n d e k = firstFit [z0, z1, z2] a b n d e k
  | 0, _ => rfl
  | k + 1, h => by
    unfold firstFit
    rw [join_col k0 k1 k2 m0 m1 m2 h1 h2 (1 - (k : Int)) (by omega), first_col k0 k1 k2 m0 m1 m2 h1 h2 a b d e k (by omega)]
end Go.Proofs.Ytndckncoipkhaaa.Cut
