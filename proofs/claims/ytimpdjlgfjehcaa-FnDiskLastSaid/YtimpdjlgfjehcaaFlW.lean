/-
  A flush: the model's loop.
-/
import Derived.Test.YtimpdjlgfjehcaaCrW
namespace Go.Proofs.Ytimpdjlgfjehcaa
open Go.RowKit

def FB (h3 g c b k n e : Nat) (m : Nat) (x : ByteArray) (W : World) : Prop :=
  W.cell? ⟨h3, 0, none⟩ = some (.slice (some ⟨g, 0, none⟩) 64 c) ∧ W.cell? ⟨h3, 1, none⟩ = some (.slice (some ⟨b, 0, none⟩) m e) ∧ W.cell? ⟨b, k * 2, none⟩ = some (.int .i64 n) ∧ W.cell? ⟨b, k * 2 + 1, none⟩ = some (.string x)
theorem FB.drew {h3 g c b k n e m : Nat} {x : ByteArray} {W : World} (h : FB h3 g c b k n e m x W) : FB h3 g c b k n e m x W.drew := h
theorem FB.store {h3 g c b k n e m : Nat} {x : ByteArray} {W : World} (h : FB h3 g c b k n e m x W) (n3 : g ≠ h3) (n8 : g ≠ b) (i : Nat) (u : Value) : FB h3 g c b k n e m x (W.setCell ⟨g, i, none⟩ u) := by
  obtain ⟨a, b', d, f⟩ := h
  have q := fun (k : Nat) (j : Nat) (hk : g ≠ k) => World.cell?_of_block (a := ⟨k, j, none⟩) (Below.heap_setCell W ⟨g, i, none⟩ u k hk.symm)
  exact ⟨(q h3 0 n3).trans a, (q h3 1 n3).trans b', (q b _ n8).trans d, (q b _ n8).trans f⟩

theorem CrK.drew {base : Nat} {t : TypeId} {g c : Nat} {B : Option Addr} {e : Nat} {ws : List Wt} {gone : Bool} {w W : World} {cs : List ByteArray} (h : CrK base t g c B e ws gone w W cs) : CrK base t g c B e ws gone w W.drew cs :=
  ⟨h.b3, h.b6, h.row, h.wts, below_drewN h.bel 1⟩

end Go.Proofs.Ytimpdjlgfjehcaa
