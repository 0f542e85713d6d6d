/-
  What the drawing of a disk keeps.
-/
import Derived.Test.YtadgknkheachaaaMsk
import Derived.Test.YtadgknkheachaaaSpS
import Derived.Test.YtadgknkheachaaaNew
import Derived.Deep.RegionHeld3
namespace Go.Proofs.Ytadgknkheachaaa
open Go.RowKit

theorem IsRd.not_row {w0 w : World} {B : Nat} {A : Option Addr} {m cap p base n sz : Nat} {t : TypeId} {v : Value} {xs : List Value} (h : IsRd w0 w B A m cap p) (ho : w.ownsRow base t sz v n xs) (ht : t ≠ 93) : v.ownBlock ≠ some B := by
  rcases ho.2 with ⟨rfl, _⟩ | ⟨g, c, cur, rfl, _, hg, _⟩
  · simp [Value.ownBlock]
  · intro e
    simp only [Value.ownBlock, Option.some.injEq] at e
    subst e
    have := hg.symm.trans h.blk
    injection this with this
    injection this with _ ht'
    exact ht ht'
theorem IsRd.ne_bx {w0 w : World} {B : Nat} {A : Option Addr} {m cap p g : Nat} {t : TypeId} {x y z : Value} (h : IsRd w0 w B A m cap p) (b : Bx w g t x y z) : g ≠ B := by
  intro e
  subst e
  have := (show w.heap[g]? = _ from b).symm.trans h.blk
  simp at this
theorem IsRd.past {w0 w w' : World} {B : Nat} {A : Option Addr} {m cap p : Nat} (h : IsRd w0 w B A m cap p) (hb : Below w.heap.size w w') : IsRd w0 w' B A m cap p :=
  ⟨(hb.block B h.lt).trans h.blk, h.bts, h.old, h.bel.trans (hb.mono h.bel.size), h.few⟩
theorem IsRd.drew' {w0 w : World} {B : Nat} {A : Option Addr} {m cap p : Nat} (h : IsRd w0 w B A m cap p) : IsRd w0 w.drew B A m cap p := ⟨h.blk, h.bts, h.old, h.bel.drew, h.few⟩
theorem IsRd.set {w0 w : World} {B : Nat} {A : Option Addr} {m cap p g : Nat} (h : IsRd w0 w B A m cap p) (hg : w0.heap.size ≤ g) (hne : B ≠ g) (i : Nat) (u : Value) : IsRd w0 (w.setCell ⟨g, i, none⟩ u) B A m cap p :=
  ⟨(Below.heap_setCell w ⟨g, i, none⟩ u B hne).trans h.blk, h.bts, h.old, h.bel.setCell (p := ⟨g, i, none⟩) hg u, h.few⟩
theorem Bx.grown {W W' : World} {g : Nat} {t : TypeId} {x y z : Value} (h : Bx W g t x y z) {r : Option Nat} (hg : W.grownBy W' r) (hr : some g ≠ r) : Bx W' g t x y z := (hg.block g h.lt hr).trans h

structure DS (w0 w : World) (B : Nat) (A : Option Addr) (m cap g3 base P : Nat) (Av : Option Addr) (c : Nat) (Bv : Option Addr) (e : Nat) (d : Dk) (W : World) : Prop where
  bx : Bx W g3 25 (.slice Av d.cells.length c) (.slice Bv d.waits.length e) (.bool d.gone)
  br : Bx W w.heap.size 25 (.slice none 0 0) (.slice none 0 0) (.bool false)
  own : DkOwn W base (.agg #[.slice Av d.cells.length c, .slice Bv d.waits.length e, .bool d.gone]) d
  rd : ∃ p, p ≤ P ∧ IsRd w0 W B A m cap p
  gr : w.grownBy W (some B)
  small : (∀ s ∈ d.cells, s.size ≤ 1000) ∧ (∀ x ∈ d.waits, x.text.size ≤ 1000)
theorem DS.drew {w0 w : World} {B : Nat} {A : Option Addr} {m cap g3 base P : Nat} {Av : Option Addr} {c : Nat} {Bv : Option Addr} {e : Nat} {d : Dk} {W : World} (h : DS w0 w B A m cap g3 base P Av c Bv e d W) : DS w0 w B A m cap g3 base P Av c Bv e d W.drew :=
  ⟨h.bx, h.br, h.own, by obtain ⟨p, hp, h⟩ := h.rd; exact ⟨p, hp, h.drew'⟩, h.gr.trans ⟨rfl, rfl, rfl, Nat.le_refl _, fun _ _ _ => rfl⟩, h.small⟩
/-- The reader has gone on. -/
theorem DS.read {w0 w : World} {B : Nat} {A : Option Addr} {m cap g3 base P Q : Nat} {Av : Option Addr} {c : Nat} {Bv : Option Addr} {e : Nat} {d : Dk} {W W' : World} (h : DS w0 w B A m cap g3 base P Av c Bv e d W) {p : Nat} (hr : IsRd w0 W' B A m cap p) (hp : p ≤ Q) (hg : W.grownBy W' (some B)) : DS w0 w B A m cap g3 base Q Av c Bv e d W' := by
  obtain ⟨p0, _, hr0⟩ := h.rd
  refine ⟨h.bx.grown hg (fun e => hr0.ne_bx h.bx (by injection e)), h.br.grown hg (fun e => hr0.ne_bx h.br (by injection e)), ?_, ⟨p, hp, hr⟩, h.gr.trans hg, h.small⟩
  obtain ⟨t, u1, u2, hv, ht, o1, o2⟩ := h.own
  exact ⟨t, u1, u2, hv, ht, o1.kept hg (.inr (hr0.not_row o1 (by rcases ht with rfl | rfl <;> decide))), o2.kept hg (.inr (hr0.not_row o2 (by decide)))⟩
end Go.Proofs.Ytadgknkheachaaa
