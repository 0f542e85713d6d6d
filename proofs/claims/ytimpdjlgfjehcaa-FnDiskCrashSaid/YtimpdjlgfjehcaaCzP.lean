/-
  A crash that nothing of the writes comes through of: the cells stay.
-/
import Derived.Test.YtimpdjlgfjehcaaPl
import Derived.Test.YtimpdjlgfjehcaaReg
import Derived.Test.YtimpdjlgfjehcaaTornP
namespace Go.Proofs.Ytimpdjlgfjehcaa
open Go.RowKit

theorem st_zero (ws : List Wt) (cs : List ByteArray) (k : Nat) : st ws 0 (-1) cs k = cs := by
  induction k with
  | zero => rfl
  | succ k ih =>
    unfold st
    split
    · rw [ih]
      unfold stp
      have hb : ¬ bitM 0 k = true := by simp [bitM]
      have ht : ¬ (k : Int) = -1 := by omega
      rw [if_neg hb, if_neg ht]
    · exact ih
theorem crash_zero {d : Dk} (h : DkOk d) : (crashD d 0 (-1)).cells = d.cells := by
  rw [crashD_yes h (by decide)]
  exact st_zero _ _ _
theorem crash_sixty {d : Dk} (h : DkOk d) {m : Int} (t : Int) (hm : 0 ≤ m) : (crashD d m t).cells.length = 64 := by
  rw [crashD_yes h hm]
  exact (crash_valid h m t).1
theorem crash_okD {d : Dk} (h : DkOk d) {m : Int} (t : Int) (hm : 0 ≤ m) : okD (crashD d m t) = true := by
  rw [crashD_yes h hm]
  exact (okD_iff _).2 (crash_valid h m t)

/-- Two boxes' cells, behind the world w. -/
def K6 (w : World) (gA gB : Nat) (x0 x1 x2 y0 y1 y2 : Value) (W : World) : Prop :=
  W.cell? ⟨gA, 0, none⟩ = some x0 ∧ W.cell? ⟨gA, 1, none⟩ = some x1 ∧ W.cell? ⟨gA, 2, none⟩ = some x2 ∧ W.cell? ⟨gB, 0, none⟩ = some y0 ∧ W.cell? ⟨gB, 1, none⟩ = some y1 ∧ W.cell? ⟨gB, 2, none⟩ = some y2 ∧
  gA < W.heap.size ∧ gB < W.heap.size ∧ Below w.heap.size w W
section
variable {w W W' : World} {gA gB : Nat} {x0 x1 x2 y0 y1 y2 : Value}
theorem K6.next (k : K6 w gA gB x0 x1 x2 y0 y1 y2 W) (hb : Below W.heap.size W W') : K6 w gA gB x0 x1 x2 y0 y1 y2 W' := by
  obtain ⟨a0, a1, a2, b0, b1, b2, hA, hB, hw⟩ := k
  have hs := hb.size
  exact ⟨(hb.cell hA).trans a0, (hb.cell hA).trans a1, (hb.cell hA).trans a2, (hb.cell hB).trans b0, (hb.cell hB).trans b1, (hb.cell hB).trans b2, by omega, by omega, bel_then hw hb⟩
theorem K6.drew (k : K6 w gA gB x0 x1 x2 y0 y1 y2 W) : K6 w gA gB x0 x1 x2 y0 y1 y2 W.drew := by
  obtain ⟨a0, a1, a2, b0, b1, b2, hA, hB, hw⟩ := k
  exact ⟨a0, a1, a2, b0, b1, b2, hA, hB, below_drewN hw 1⟩
theorem K6.bel (k : K6 w gA gB x0 x1 x2 y0 y1 y2 W) : Below w.heap.size w W := k.2.2.2.2.2.2.2.2
end
end Go.Proofs.Ytimpdjlgfjehcaa
