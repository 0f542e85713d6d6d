/-
  What a drawn region leans on: two disks' boxes, one text's cell.
-/
import Derived.Test.YtimpdjlgfjehcaaTornP
import Derived.Test.YtimpdjlgfjehcaaReg
namespace Go.Proofs.Ytimpdjlgfjehcaa
open Go.RowKit

/-- Two boxes' cells and a text's cell, behind the world w. -/
def KS (w : World) (gA gB g j : Nat) (x0 x1 x2 y0 y1 y2 : Value) (s : ByteArray) (W : World) : Prop :=
  W.cell? ⟨gA, 0, none⟩ = some x0 ∧ W.cell? ⟨gA, 1, none⟩ = some x1 ∧ W.cell? ⟨gA, 2, none⟩ = some x2 ∧ W.cell? ⟨gB, 0, none⟩ = some y0 ∧ W.cell? ⟨gB, 1, none⟩ = some y1 ∧ W.cell? ⟨gB, 2, none⟩ = some y2 ∧
  W.cell? ⟨g, j, none⟩ = some (.string s) ∧ gA < W.heap.size ∧ gB < W.heap.size ∧ g < W.heap.size ∧ Below w.heap.size w W
section
variable {w W W' : World} {gA gB g j : Nat} {x0 x1 x2 y0 y1 y2 : Value} {s : ByteArray}
theorem KS.next (k : KS w gA gB g j x0 x1 x2 y0 y1 y2 s W) (hb : Below W.heap.size W W') : KS w gA gB g j x0 x1 x2 y0 y1 y2 s W' := by
  obtain ⟨a0, a1, a2, b0, b1, b2, c, hA, hB, hg, hw⟩ := k
  have hs := hb.size
  exact ⟨(hb.cell hA).trans a0, (hb.cell hA).trans a1, (hb.cell hA).trans a2, (hb.cell hB).trans b0, (hb.cell hB).trans b1, (hb.cell hB).trans b2, (hb.cell hg).trans c, by omega, by omega, by omega, bel_then hw hb⟩
theorem KS.drew (k : KS w gA gB g j x0 x1 x2 y0 y1 y2 s W) : KS w gA gB g j x0 x1 x2 y0 y1 y2 s W.drew := by
  obtain ⟨a0, a1, a2, b0, b1, b2, c, hA, hB, hg, hw⟩ := k
  exact ⟨a0, a1, a2, b0, b1, b2, c, hA, hB, hg, below_drewN hw 1⟩
theorem KS.bel (k : KS w gA gB g j x0 x1 x2 y0 y1 y2 s W) : Below w.heap.size w W := k.2.2.2.2.2.2.2.2.2.2
end

end Go.Proofs.Ytimpdjlgfjehcaa
