/-
  A drawn disk stays, whatever its reader reads on.
-/
import Derived.Test.YtimpdjlgfjehcaaME
import Derived.Test.YtimpdjlgfjehcaaWP23
namespace Go.Proofs.Ytimpdjlgfjehcaa
open Go.RowKit

/-- A block that no text lies in. -/
def NoStr (W : World) (g : Nat) : Prop := ∀ off s, W.cell? ⟨g, off, none⟩ ≠ some (.string s)
theorem IsRd.noStr {w0 w : World} {B : Nat} {A : Option Addr} {m cap p : Nat} (h : IsRd w0 w B A m cap p) : NoStr w B := fun off s e => by
  simp only [World.cell?, h.blk] at e
  rcases off with _ | _ | off <;> simp at e
theorem Bx.noStr {W : World} {g n m c e : Nat} {t : TypeId} {A B : Option Addr} {b : Bool} (h : Bx W g t (.slice A n c) (.slice B m e) (.bool b)) : NoStr W g := fun off s k => by
  simp only [World.cell?, (show W.heap[g]? = _ from h)] at k
  rcases off with _ | _ | _ | off <;> simp at k
theorem Lies.past {W W' : World} {g : Nat} {A : Option Addr} {xs : List Value} (h : Lies W A xs) (hn : NoStr W g) (hx : 0 < xs.length → ∃ (j : Nat) (s : ByteArray), xs[j]? = some (.string s)) (hz : W.heap.size ≤ W'.heap.size) (hk : ∀ k, k < W.heap.size → k ≠ g → W'.heap[k]? = W.heap[k]?) : Lies W' A xs := fun h0 => by
  obtain ⟨b, off, e, hlt, hc⟩ := h h0
  have hb : b ≠ g := fun e => by
    obtain ⟨j, s, hj⟩ := hx h0
    subst e
    exact hn _ _ (hc j _ hj)
  exact ⟨b, off, e, by omega, fun j v hj => (World.cell?_of_block (a := ⟨b, off + j, none⟩) (hk b hlt hb)).trans (hc j v hj)⟩
theorem DkAt.past {W W' : World} {g : Nat} {A B : Option Addr} {d : Dk} (h : DkAt W A B d) (hn : NoStr W g) (hz : W.heap.size ≤ W'.heap.size) (hk : ∀ k, k < W.heap.size → k ≠ g → W'.heap[k]? = W.heap[k]?) : DkAt W' A B d :=
  ⟨h.1.past hn (fun h0 => by rw [strCells_len] at h0; exact ⟨0, _, strCells_at _ 0 h0⟩) hz hk,
   h.2.past hn (fun h0 => by rw [wtCells_len] at h0; exact ⟨0 * 2 + 1, _, (wtCells_at _ 0 (by omega)).2⟩) hz hk⟩
theorem DkAt.read {w0 w w' : World} {B : Nat} {A : Option Addr} {m cap p : Nat} (hr : IsRd w0 w B A m cap p) {C D : Option Addr} {d : Dk} (h : DkAt w C D d) (hg : w.grownBy w' (some B)) : DkAt w' C D d :=
  h.past hr.noStr hg.size (fun k hk hne => hg.block k hk (fun e => hne (by injection e)))
theorem heap_set3 (W : World) (R : Nat) (x y z : Value) (k : Nat) (hk : k ≠ R) : (((W.setCell ⟨R, 0, none⟩ x).setCell ⟨R, 1, none⟩ y).setCell ⟨R, 2, none⟩ z).heap[k]? = W.heap[k]? :=
  ((Below.heap_setCell _ ⟨R, 2, none⟩ z k hk).trans (Below.heap_setCell _ ⟨R, 1, none⟩ y k hk)).trans (Below.heap_setCell _ ⟨R, 0, none⟩ x k hk)
theorem DkAt.box {W : World} {R n m c e : Nat} {t : TypeId} {A B C D : Option Addr} {b : Bool} {d : Dk} (h : DkAt W C D d) (bx : Bx W R t (.slice A n c) (.slice B m e) (.bool b)) (x y z : Value) : DkAt (((W.setCell ⟨R, 0, none⟩ x).setCell ⟨R, 1, none⟩ y).setCell ⟨R, 2, none⟩ z) C D d :=
  h.past bx.noStr (by simp [World.setCell]) (fun k _ hne => heap_set3 W R x y z k hne)
theorem below_box {w W : World} (h : Below w.heap.size w W) (x y z : Value) : Below w.heap.size w (((W.setCell ⟨w.heap.size, 0, none⟩ x).setCell ⟨w.heap.size, 1, none⟩ y).setCell ⟨w.heap.size, 2, none⟩ z) :=
  ((h.setCell (p := ⟨w.heap.size, 0, none⟩) (Nat.le_refl _) x).setCell (p := ⟨w.heap.size, 1, none⟩) (Nat.le_refl _) y).setCell (p := ⟨w.heap.size, 2, none⟩) (Nat.le_refl _) z

/-- A disk, a place and a text are drawn. -/
def Drawn3 (w : World) (r : Ending) (w' : World) : Prop :=
  ∃ (d : Dk) (Av : Option Addr) (c : Nat) (Bv : Option Addr) (e : Nat) (n : Int) (t : ByteArray), r = .returned (.tuple #[.agg #[.slice Av d.cells.length c, .slice Bv d.waits.length e, .bool d.gone], .int .i64 n, .string t]) ∧ DkAt w' Av Bv d ∧ Bulk d ∧ t.size ≤ 1000 ∧ Below w.heap.size w w'
/-- A disk and a place are drawn. -/
def Drawn2 (w : World) (r : Ending) (w' : World) : Prop :=
  ∃ (d : Dk) (Av : Option Addr) (c : Nat) (Bv : Option Addr) (e : Nat) (n : Int), r = .returned (.tuple #[.agg #[.slice Av d.cells.length c, .slice Bv d.waits.length e, .bool d.gone], .int .i64 n]) ∧ DkAt w' Av Bv d ∧ Bulk d ∧ Below w.heap.size w w'
/-- A disk, a mask and a number are drawn. -/
def DrawnM (w : World) (r : Ending) (w' : World) : Prop :=
  ∃ (d : Dk) (Av : Option Addr) (c : Nat) (Bv : Option Addr) (e : Nat) (m t : Int), r = .returned (.tuple #[.agg #[.slice Av d.cells.length c, .slice Bv d.waits.length e, .bool d.gone], .int .i64 m, .int .i64 t]) ∧ DkAt w' Av Bv d ∧ Bulk d ∧ m ≤ 9223372036854775807 ∧ Below w.heap.size w w'
end Go.Proofs.Ytimpdjlgfjehcaa
