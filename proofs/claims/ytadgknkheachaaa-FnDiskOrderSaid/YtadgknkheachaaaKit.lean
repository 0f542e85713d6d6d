/-
  What the walks of the laws carry along: boxes, and disks in memory of the call's own.
-/
import Derived.Test.YtadgknkheachaaaIOk2
namespace Go.Proofs.Ytadgknkheachaaa
open Go.RowKit

/-- Block g is a box of three cells. -/
def Bx (W : World) (g : Nat) (t : TypeId) (x y z : Value) : Prop := W.heap[g]? = some (.cells #[x, y, z] t (0, 0))
theorem Bx.new (w : World) (t : TypeId) (x y z : Value) : Bx (w.alloc (.cells #[x, y, z] t)) w.heap.size t x y z := heap_alloc_new w _
theorem Bx.lt {W : World} {g : Nat} {t : TypeId} {x y z : Value} (h : Bx W g t x y z) : g < W.heap.size := (Array.getElem?_eq_some_iff.1 h).1
theorem Bx.below {W W' : World} {g : Nat} {t : TypeId} {x y z : Value} (h : Bx W g t x y z) (hb : Below W.heap.size W W') : Bx W' g t x y z := (hb.block g h.lt).trans h
theorem Bx.alloc {W : World} {g : Nat} {t : TypeId} {x y z : Value} (h : Bx W g t x y z) (o : Obj) : Bx (W.alloc o) g t x y z := (Below.heap_alloc W o g h.lt).trans h
theorem Bx.drew {W : World} {g : Nat} {t : TypeId} {x y z : Value} (h : Bx W g t x y z) : Bx W.drew g t x y z := h
theorem Bx.set {W : World} {g : Nat} {t : TypeId} {x y z : Value} (h : Bx W g t x y z) {p : Addr} (hp : g ≠ p.block) (u : Value) : Bx (W.setCell p u) g t x y z := (Below.heap_setCell W p u g hp).trans h
theorem Bx.only {W W' : World} {lo hi g : Nat} {t : TypeId} {x y z : Value} (h : Bx W g t x y z) (hg : Only lo hi W W') (hn : ¬ (lo ≤ g ∧ g < hi)) : Bx W' g t x y z := (hg.block g h.lt hn).trans h
theorem Bx.cells {W : World} {g : Nat} {t : TypeId} {x y z : Value} (h : Bx W g t x y z) :
    (W.cell? ⟨g, 0, none⟩ = some x ∧ W.cell? ⟨g, 1, none⟩ = some y ∧ W.cell? ⟨g, 2, none⟩ = some z) ∧ (W.frozen? ⟨g, 0, none⟩ = false ∧ W.frozen? ⟨g, 1, none⟩ = false ∧ W.frozen? ⟨g, 2, none⟩ = false) := by
  unfold Bx at h
  simp [World.cell?, World.frozen?, h]

def dV (A : Option Addr) (c : Nat) (B : Option Addr) (e : Nat) (d : Dk) : Value := .agg #[.slice A d.cells.length c, .slice B d.waits.length e, .bool d.gone]
theorem DkOwn.lies {w : World} {base : Nat} {A B : Option Addr} {c e : Nat} {d : Dk} (h : DkOwn w base (.agg #[.slice A d.cells.length c, .slice B d.waits.length e, .bool d.gone]) d) : DkAt w A B d := by
  obtain ⟨A', c', B', e', hv, h'⟩ := h.at_
  simp only [Value.agg.injEq, Array.mk.injEq, List.cons.injEq, Value.slice.injEq, and_true, true_and] at hv
  obtain ⟨⟨rfl, rfl⟩, rfl, rfl⟩ := hv
  exact h'
/-- A disk is returned, in memory of the call's own. -/
def DPost (d : Dk) (w : World) (r : Ending) (w' : World) : Prop :=
  ∃ A c B e, r = .returned (.agg #[.slice A d.cells.length c, .slice B d.waits.length e, .bool d.gone]) ∧ DkOwn w' w.heap.size (.agg #[.slice A d.cells.length c, .slice B d.waits.length e, .bool d.gone]) d ∧ Below w.heap.size w w'
theorem DkPost.out {d : Dk} {w w' : World} {r : Ending} (h : DkPost d w r w') : DPost d w r w' := by
  obtain ⟨v, rfl, h1, h2⟩ := h
  obtain ⟨A, c, B, e, rfl, _⟩ := h1.at_
  exact ⟨A, c, B, e, rfl, h1, h2⟩
/-- A disk and a bool are returned. -/
def DPost2 (d : Dk) (b : Bool) (w : World) (r : Ending) (w' : World) : Prop :=
  ∃ A c B e, r = .returned (.tuple #[.agg #[.slice A d.cells.length c, .slice B d.waits.length e, .bool d.gone], .bool b]) ∧ DkOwn w' w.heap.size (.agg #[.slice A d.cells.length c, .slice B d.waits.length e, .bool d.gone]) d ∧ Below w.heap.size w w'
theorem to_d (A B : Option Addr) (c e : Nat) (d : Dk) (w : World) (hd : Bulk d) (hA : DkAt w A B d) :
    Calls Try.prog 29 #[.agg #[.slice A d.cells.length c, .slice B d.waits.length e, .bool d.gone]] w (DPost d w) :=
  (to_disk A B c e d w hd.cells hd.waits hA).mono fun _ _ h => DkPost.out h
end Go.Proofs.Ytadgknkheachaaa
