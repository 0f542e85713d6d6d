/-
  FnDiskFlush's walk, where a drawn disk is at hand.
-/
import Derived.Test.YtimpdjlgfjehcaaFlP
import Derived.Test.YtimpdjlgfjehcaaFlI
import Derived.Test.YtimpdjlgfjehcaaPf
import Derived.Test.YtimpdjlgfjehcaaArgs
namespace Go.Proofs.Ytimpdjlgfjehcaa
open Go.RowKit

/-- Some disk is drawn. -/
def DrawnPost (w : World) (r : Ending) (w' : World) : Prop :=
  ∃ (d : Dk) (Av : Option Addr) (c : Nat) (Bv : Option Addr) (e : Nat), r = .returned (.agg #[.slice Av d.cells.length c, .slice Bv d.waits.length e, .bool d.gone]) ∧ DkAt w' Av Bv d ∧ Bulk d ∧ Below w.heap.size w w'

/-- The cells of two boxes. -/
def SX (g h : Nat) (x y z x' y' z' : Value) (W : World) : Prop :=
  W.cell? ⟨g, 0, none⟩ = some x ∧ W.cell? ⟨g, 1, none⟩ = some y ∧ W.cell? ⟨g, 2, none⟩ = some z ∧ W.cell? ⟨h, 0, none⟩ = some x' ∧ W.cell? ⟨h, 1, none⟩ = some y' ∧ W.cell? ⟨h, 2, none⟩ = some z'
theorem SX.of {g h : Nat} {t t' : TypeId} {x y z x' y' z' : Value} {W : World} (a : Bx W g t x y z) (b : Bx W h t' x' y' z') : SX g h x y z x' y' z' W :=
  ⟨a.cells.1.1, a.cells.1.2.1, a.cells.1.2.2, b.cells.1.1, b.cells.1.2.1, b.cells.1.2.2⟩

end Go.Proofs.Ytimpdjlgfjehcaa
