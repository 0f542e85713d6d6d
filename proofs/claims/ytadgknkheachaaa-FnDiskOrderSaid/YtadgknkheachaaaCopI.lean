/-
  The program's copy of a disk.
-/
import Derived.Test.YtadgknkheachaaaClone
namespace Go.Proofs.Ytadgknkheachaaa
open Go.RowKit

/-- The two boxes of a copy, kept. -/
def TwoB (w : World) (g h : Nat) (x y z : Value) (W : World) : Prop :=
  W.cell? ⟨g, 0, none⟩ = some x ∧ W.cell? ⟨g, 1, none⟩ = some y ∧ W.cell? ⟨g, 2, none⟩ = some z ∧ W.cell? ⟨h, 0, none⟩ = some (.slice none 0 0) ∧ W.cell? ⟨h, 1, none⟩ = some (.slice none 0 0) ∧ W.cell? ⟨h, 2, none⟩ = some (.bool false) ∧
    W.frozen? ⟨h, 0, none⟩ = false ∧ W.frozen? ⟨h, 1, none⟩ = false ∧ W.frozen? ⟨h, 2, none⟩ = false ∧ g < W.heap.size ∧ h < W.heap.size ∧ Below w.heap.size w W
theorem TwoB.next {w W W' : World} {g h : Nat} {x y z : Value} (k : TwoB w g h x y z W) (hb : Below W.heap.size W W') : TwoB w g h x y z W' := by
  obtain ⟨a0, a1, a2, b0, b1, b2, f0, f1, f2, hg, hh, hw⟩ := k
  exact ⟨(hb.cell hg).trans a0, (hb.cell hg).trans a1, (hb.cell hg).trans a2, (hb.cell hh).trans b0, (hb.cell hh).trans b1, (hb.cell hh).trans b2, (hb.frozen hh).trans f0, (hb.frozen hh).trans f1, (hb.frozen hh).trans f2, Nat.lt_of_lt_of_le hg hb.size, Nat.lt_of_lt_of_le hh hb.size, bel_then hw hb⟩
theorem TwoB.drew {w W : World} {g h : Nat} {x y z : Value} (k : TwoB w g h x y z W) : TwoB w g h x y z W.drew := by
  obtain ⟨a0, a1, a2, b0, b1, b2, f0, f1, f2, hg, hh, hw⟩ := k
  exact ⟨a0, a1, a2, b0, b1, b2, f0, f1, f2, hg, hh, hw.drew⟩
theorem TwoB.new (w : World) (x y z : Value) : TwoB w w.heap.size (w.heap.size + 1) x y z ((w.alloc (.cells #[x, y, z] 25)).alloc (.cells #[.slice none 0 0, .slice none 0 0, .bool false] 25)) := by
  obtain ⟨⟨a0, a1, a2⟩, _⟩ := ((Bx.new w 25 x y z).alloc (.cells #[.slice none 0 0, .slice none 0 0, .bool false] 25)).cells
  obtain ⟨⟨b0, b1, b2⟩, f0, f1, f2⟩ := (Bx.new (w.alloc (.cells #[x, y, z] 25)) 25 (.slice none 0 0) (.slice none 0 0) (.bool false)).cells
  rw [World.size_alloc] at b0 b1 b2 f0 f1 f2
  exact ⟨a0, a1, a2, b0, b1, b2, f0, f1, f2, by simp; omega, by simp, bel_new (bel_new (Below.refl _ _) _) _⟩

/-- One box, kept. -/
def OneB (w : World) (g : Nat) (x y z : Value) (W : World) : Prop :=
  W.cell? ⟨g, 0, none⟩ = some x ∧ W.cell? ⟨g, 1, none⟩ = some y ∧ W.cell? ⟨g, 2, none⟩ = some z ∧ Below w.heap.size w W
theorem TwoB.one {w W : World} {g h : Nat} {x y z : Value} (k : TwoB w g h x y z W) : OneB w g x y z W := ⟨k.1, k.2.1, k.2.2.1, k.2.2.2.2.2.2.2.2.2.2.2⟩
theorem OneB.set {w W : World} {g : Nat} {x y z : Value} (k : OneB w g x y z W) {h i : Nat} (hh : w.heap.size ≤ h) (hg : h ≠ g) (u : Value) : OneB w g x y z (W.setCell ⟨h, i, none⟩ u) := by
  obtain ⟨a0, a1, a2, b⟩ := k
  have o : ∀ j, (W.setCell ⟨h, i, none⟩ u).cell? ⟨g, j, none⟩ = W.cell? ⟨g, j, none⟩ := fun j => World.cell?_setCell_other _ _ _ _ (fun e => hg (by cases e; rfl))
  exact ⟨(o 0).trans a0, (o 1).trans a1, (o 2).trans a2, b.setCell (p := ⟨h, i, none⟩) hh u⟩
theorem OneB.box {w W : World} {g : Nat} {x y z : Value} (k : OneB w g x y z W) {h : Nat} (hh : w.heap.size ≤ h) (hg : h ≠ g) (a b c : Value) : OneB w g x y z (((W.setCell ⟨h, 0, none⟩ a).setCell ⟨h, 1, none⟩ b).setCell ⟨h, 2, none⟩ c) :=
  ((k.set hh hg a).set hh hg b).set hh hg c

set_option maxRecDepth 100000 in
set_option maxHeartbeats 4000000 in
theorem copied (A B : Option Addr) (c e : Nat) (d : Dk) (w : World) (hd : Bulk d) (hA : DkAt w A B d) :
    Calls Try.prog 69 #[.agg #[.slice A d.cells.length c, .slice B d.waits.length e, .bool d.gone]] w (DPost d w) := by
  have hS := fun W hW => clone_strs A c d.cells W hd.cells (hA.1.below (w' := W) hW)
  have hT := fun W hW => clone_waits B e d.waits W hd.waits (hA.2.below (w' := W) hW)
  have K0 := TwoB.new w (.slice A d.cells.length c) (.slice B d.waits.length e) (.bool d.gone)
  have K1 := K0.drew
  have k0 := K0.one
  have k1 := K1.one
  obtain ⟨x0, x1, x2, y0, y1, y2, f0, f1, f2, hg, hh, B0⟩ := id K0
  have hle : w.heap.size ≤ w.heap.size + 1 := by omega
  have hne : w.heap.size + 1 ≠ w.heap.size := by omega
  clear hA
  go_enter Try.func69, Try.ntmps69
  go_upto_region 1 with fail
  go_region_held3 (fun W => W.cell? ⟨w.heap.size, 0, none⟩ = some (.slice A d.cells.length c) ∧ W.cell? ⟨w.heap.size, 1, none⟩ = some (.slice B d.waits.length e) ∧ W.cell? ⟨w.heap.size, 2, none⟩ = some (.bool d.gone) ∧ Below w.heap.size w W)
    ((show OneB w w.heap.size (.slice A d.cells.length c) (.slice B d.waits.length e) (.bool d.gone) _; with_reducible (first | exact k0 | exact k1 | exact k2 | exact k3 | exact k3.box hle hne _ _ _)))
    (first
      | (go_at_call 88; refine (hS _ k1.2.2.2).mono ?_; rintro r w2 ⟨A2, c2, rfl, o2, hb2⟩; have K2 := K1.next hb2; have k2 := K2.one)
      | (go_at_call 89; refine (hT _ k2.2.2.2).mono ?_; rintro r w3 ⟨A3, c3, rfl, o3, hb3⟩; have K3 := K2.next hb3; have k3 := K3.one; obtain ⟨z0, z1, z2, y0, y1, y2, f0, f1, f2, _⟩ := id K3))
  have p2 := own_base (base' := w.heap.size + 1 + 1) (own_bel o2 hb3) (by simp)
  have p3 := own_base (base' := w.heap.size + 1 + 1) o3 (by have := hb2.size; simp at this; omega)
  have ow : DkOwn w3 (w.heap.size + 1 + 1) (.agg #[.slice A2 d.cells.length c2, .slice A3 d.waits.length c3, .bool d.gone]) d := ⟨9, _, _, rfl, .inl rfl, p2, p3⟩
  have B3 := k3.2.2.2
  clear hS hT K0 K1 k0 k1 x0 x1 x2 z0 z1 z2 K2 k2 K3 k3 o2 o3 hb2 hb3 p2 p3
  go_wp2_with fail
  exact bodyPost_ret (v := .agg #[.slice A2 d.cells.length c2, .slice A3 d.waits.length c3, .bool d.gone]) (by simp [results, Try.f69, go_sem, y0, y1, y2]) rfl ⟨_, _, _, _, rfl, (ow.box (R := w.heap.size + 1) (by omega) _ _ _).base (by omega), bel_box B3 hle _ _ _⟩
end Go.Proofs.Ytadgknkheachaaa
