/-
  The end of the drawing of a disk.
-/
import Derived.Test.YtadgknkheachaaaDsP
import Derived.Deep.RegionHeldLaw
import Derived.Deep.RegionLaw
namespace Go.Proofs.Ytadgknkheachaaa
open Go.RowKit

def DrPost (w0 w : World) (B : Nat) (A : Option Addr) (m cap p : Nat) (r : Ending) (w' : World) : Prop :=
  ∃ (d : Dk) (Av : Option Addr) (c : Nat) (Bv : Option Addr) (e p' : Nat), r = .returned (.agg #[.slice Av d.cells.length c, .slice Bv d.waits.length e, .bool d.gone]) ∧ DkAt w' Av Bv d ∧ Bulk d ∧ IsRd w0 w' B A m cap p' ∧ p' ≤ p + 2000 ∧ w.grownBy w' (some B)

theorem lies_drop {W : World} {g : Nat} {ss : List ByteArray} (h : Lies W (some ⟨g, 0, none⟩) (strCells ss)) : Lies W (some ⟨g, 1, none⟩) (strCells (ss.drop 1)) := by
  intro h0
  have hl : 0 < (strCells ss).length := by
    rw [strCells_len] at h0 ⊢
    rw [List.length_drop] at h0
    omega
  obtain ⟨b, off, e, hlt, hc⟩ := h hl
  injection e with e
  injection e with e1 e2
  subst e1 e2
  refine ⟨g, 1, rfl, hlt, fun j v hj => ?_⟩
  have := hc (1 + j) v (by simpa [strCells, List.getElem?_drop, Nat.add_comm] using hj)
  rwa [Nat.zero_add] at this
theorem bulk_of {d : Dk} (h : (∀ s ∈ d.cells, s.size ≤ 1000) ∧ (∀ x ∈ d.waits, x.text.size ≤ 1000)) (hc : d.cells.length ≤ 64) (hw : d.waits.length ≤ 200) : Bulk d :=
  ⟨by omega, by omega, fun s hs => by have := h.1 s hs; unfold maxLen; omega, fun x hx => by have := h.2 x hx; unfold maxLen; omega⟩

theorem DS.fin {w0 w : World} {B : Nat} {A : Option Addr} {m cap g3 base P p : Nat} {Av : Option Addr} {c : Nat} {Bv : Option Addr} {e : Nat} {d : Dk} {W : World} (D : DS w0 w B A m cap g3 base P Av c Bv e d W) (hb : w.heap.size < base) (h0 : w0.heap.size ≤ w.heap.size) (hP : P ≤ p + 2000) (hc : d.cells.length ≤ 64) (hw : d.waits.length ≤ 200) (x y z : Value) :
    DrPost w0 w B A m cap p (.returned (.agg #[.slice Av d.cells.length c, .slice Bv d.waits.length e, .bool d.gone])) (((W.setCell ⟨w.heap.size, 0, none⟩ x).setCell ⟨w.heap.size, 1, none⟩ y).setCell ⟨w.heap.size, 2, none⟩ z) := by
  obtain ⟨p', hp, hr⟩ := D.rd
  have hne := (hr.ne_bx D.br).symm
  exact ⟨d, Av, c, Bv, e, p', rfl, (D.own.box (R := w.heap.size) hb _ _ _).lies, bulk_of D.small hc hw, ((hr.set h0 hne 0 _).set h0 hne 1 _).set h0 hne 2 _, by omega, grown_set (grown_set (grown_set D.gr (Nat.le_refl _) 0 _) (Nat.le_refl _) 1 _) (Nat.le_refl _) 2 _⟩

theorem DS.fin0 {w0 w : World} {B : Nat} {A : Option Addr} {m cap g3 base P p : Nat} {g c : Nat} {Bv : Option Addr} {e : Nat} {d : Dk} {W : World} (D : DS w0 w B A m cap g3 base P (some ⟨g, 0, none⟩) c Bv e d W) (hb : w.heap.size < base) (h0 : w0.heap.size ≤ w.heap.size) (h3 : w.heap.size < g3) (hP : P ≤ p + 2000) (hc : d.cells.length = 64) (hw : d.waits.length ≤ 200) (c' : Nat) (v x y z : Value) :
    DrPost w0 w B A m cap p (.returned (.agg #[.slice (some ⟨g, 1, none⟩) 63 c', .slice Bv d.waits.length e, .bool d.gone])) ((((W.setCell ⟨g3, 0, none⟩ v).setCell ⟨w.heap.size, 0, none⟩ x).setCell ⟨w.heap.size, 1, none⟩ y).setCell ⟨w.heap.size, 2, none⟩ z) := by
  obtain ⟨p', hp, hr⟩ := D.rd
  have hne := (hr.ne_bx D.br).symm
  have ow := (D.own.set_box D.bx 0 v).box (R := w.heap.size) hb x y z
  have hl : (d.cells.drop 1).length = 63 := by rw [List.length_drop, hc]
  have at_ := ow.lies
  refine ⟨⟨d.cells.drop 1, d.waits, d.gone⟩, some ⟨g, 1, none⟩, c', Bv, e, p', by simp only [hl], ⟨lies_drop at_.1, at_.2⟩, bulk_of ⟨fun s hs => D.small.1 s (List.mem_of_mem_drop hs), D.small.2⟩ (by simp only [hl]; omega) hw, (((hr.set (by omega) (hr.ne_bx D.bx).symm 0 v).set h0 hne 0 _).set h0 hne 1 _).set h0 hne 2 _, by omega, grown_set (grown_set (grown_set (grown_set D.gr (by omega) 0 v) (Nat.le_refl _) 0 _) (Nat.le_refl _) 1 _) (Nat.le_refl _) 2 _⟩

/-- The disk is gone. -/
theorem DS.go {w0 w : World} {B : Nat} {A : Option Addr} {m cap g3 base P : Nat} {Av : Option Addr} {c : Nat} {Bv : Option Addr} {e : Nat} {d : Dk} {W : World} (D : DS w0 w B A m cap g3 base P Av c Bv e d W) (h0 : w0.heap.size ≤ g3) (h3 : w.heap.size < g3) :
    DS w0 w B A m cap g3 base P Av c Bv e ⟨d.cells, d.waits, true⟩ (W.setCell ⟨g3, 2, none⟩ (.bool true)) := by
  obtain ⟨p, hp, hr⟩ := D.rd
  refine ⟨D.bx.set2 _, D.br.set (p := ⟨g3, 2, none⟩) (by show w.heap.size ≠ g3; omega) _, ?_, ⟨p, hp, hr.set h0 (hr.ne_bx D.bx).symm 2 _⟩, grown_set D.gr (by omega) 2 _, D.small⟩
  obtain ⟨t, u1, u2, hv, ht, o1, o2⟩ := D.own.set_box D.bx 2 (.bool true)
  refine ⟨t, u1, u2, ?_, ht, o1, o2⟩
  simp only [Value.agg.injEq, Array.mk.injEq, List.cons.injEq, and_true] at hv ⊢
  exact ⟨hv.1, hv.2⟩
end Go.Proofs.Ytadgknkheachaaa
