/-
  A drawn disk's cells and waiting writes, put one after another.
-/
import Derived.Test.YtadgknkheachaaaDsK
namespace Go.Proofs.Ytadgknkheachaaa
open Go.RowKit

theorem grown_set {w W : World} {r : Option Nat} (h : w.grownBy W r) {g : Nat} (hg : w.heap.size ≤ g) (i : Nat) (u : Value) : w.grownBy (W.setCell ⟨g, i, none⟩ u) r :=
  ⟨h.os, h.tape, h.output, by simpa [World.setCell] using h.size, fun k hk hne => (Below.heap_setCell W ⟨g, i, none⟩ u k (by show k ≠ g; omega)).trans (h.block k hk hne)⟩
theorem DS.more {w0 w : World} {B : Nat} {A : Option Addr} {m cap g3 base P Q : Nat} {Av : Option Addr} {c : Nat} {Bv : Option Addr} {e : Nat} {d : Dk} {W : World} (h : DS w0 w B A m cap g3 base P Av c Bv e d W) (hq : P ≤ Q) : DS w0 w B A m cap g3 base Q Av c Bv e d W :=
  ⟨h.bx, h.br, h.own, by obtain ⟨p, hp, hr⟩ := h.rd; exact ⟨p, Nat.le_trans hp hq, hr⟩, h.gr, h.small⟩
theorem mem_set_small {l : List ByteArray} {k : Nat} {s : ByteArray} (h : ∀ t ∈ l, t.size ≤ 1000) (hs : s.size ≤ 1000) : ∀ t ∈ l.set k s, t.size ≤ 1000 := fun t ht => by
  rcases List.mem_or_eq_of_mem_set ht with h1 | h1
  · exact h t h1
  · rw [h1]; exact hs
theorem DS.put {w0 w : World} {B : Nat} {A : Option Addr} {m cap g3 base P : Nat} {g c : Nat} {Bv : Option Addr} {e : Nat} {d : Dk} {W : World} (h : DS w0 w B A m cap g3 base P (some ⟨g, 0, none⟩) c Bv e d W) (h0 : w0.heap.size ≤ base) (hb : w.heap.size ≤ base) (hn : 0 < d.cells.length) (k : Nat) (s : ByteArray) (hs : s.size ≤ 1000) :
    DS w0 w B A m cap g3 base P (some ⟨g, 0, none⟩) c Bv e ⟨d.cells.set k s, d.waits, d.gone⟩ (W.setCell ⟨g, k, none⟩ (.string s)) := by
  obtain ⟨tt, htt, o1, o2⟩ := h.own.rows
  obtain ⟨p, hp, hr⟩ := h.rd
  have hg := (o1.lt g rfl).1
  have n3 : g3 ≠ g := fun e => own_ne_box o1 h.bx (by rcases htt with rfl | rfl <;> decide) (by rw [e]; rfl)
  have n2 : w.heap.size ≠ g := fun e => own_ne_box o1 h.br (by rcases htt with rfl | rfl <;> decide) (by rw [e]; rfl)
  have nB : B ≠ g := fun e => hr.not_row o1 (by rcases htt with rfl | rfl <;> decide) (by rw [e]; rfl)
  have ow := own_put (gone := d.gone) htt o1 o2 k s
  refine ⟨?_, h.br.set (p := ⟨g, k, none⟩) n2 _, ?_, ⟨p, hp, hr.set (by omega) nB k _⟩, grown_set h.gr (by omega) k _, mem_set_small h.small.1 hs, h.small.2⟩
  · simp only [List.length_set]
    exact h.bx.set (p := ⟨g, k, none⟩) n3 _
  · simp only [List.length_set]
    exact ow

/-- The waiting writes of a disk are put anew, in its box. -/
theorem DS.app {w0 w : World} {B : Nat} {A : Option Addr} {m cap g3 base P : Nat} {Av : Option Addr} {c : Nat} {Bv : Option Addr} {e : Nat} {d : Dk} {W W1 : World} (h : DS w0 w B A m cap g3 base P Av c Bv e d W) (h0 : w0.heap.size ≤ base) (hb : w.heap.size ≤ base) (h3 : w.heap.size < g3) (h3' : w0.heap.size ≤ g3)
    (hg : W.grownBy W1 (Value.slice Bv d.waits.length e).ownBlock) (x : Wt) (hx : x.text.size ≤ 1000) (Bv' : Option Addr) (e' : Nat) (ho : W1.ownsRow base 58 2 (.slice Bv' (d.waits.length + 1) e') (d.waits.length + 1) (wtCells (d.waits ++ [x]))) :
    DS w0 w B A m cap g3 base P Av c Bv' e' ⟨d.cells, d.waits ++ [x], d.gone⟩ (W1.setCell ⟨g3, 1, none⟩ (.slice Bv' (d.waits.length + 1) e')) := by
  obtain ⟨tt, htt, o1, o2⟩ := h.own.rows
  obtain ⟨p, hp, hr⟩ := h.rd
  have nx := own_ne_box o2 h.bx (by decide)
  have nr := own_ne_box o2 h.br (by decide)
  have nB := hr.not_row o2 (by decide)
  have nw := own_ne o2 o1 (by rcases htt with rfl | rfl <;> decide)
  have bx1 := h.bx.grown hg nx.symm
  have br1 := h.br.grown hg nr.symm
  have hr1 : IsRd w0 W1 B A m cap p := ⟨(hg.block B hr.lt nB.symm).trans hr.blk, hr.bts, hr.old, hr.bel.grown hg hr.bel.size (fun k e => Nat.le_trans h0 (o2.lt k e).1), hr.few⟩
  have gw : w.grownBy W1 (some B) := ⟨hg.os.trans h.gr.os, hg.tape.trans h.gr.tape, hg.output.trans h.gr.output, Nat.le_trans h.gr.size hg.size, fun k hk hne => (hg.block k (Nat.lt_of_lt_of_le hk h.gr.size) (fun e => by have := (o2.lt k e.symm).1; omega)).trans (h.gr.block k hk hne)⟩
  have hl : (d.waits ++ [x]).length = d.waits.length + 1 := by rw [List.length_append]; rfl
  refine ⟨?_, br1.set (p := ⟨g3, 1, none⟩) (by show w.heap.size ≠ g3; omega) _, ?_, ⟨p, hp, hr1.set h3' (hr1.ne_bx bx1).symm 1 _⟩, grown_set gw (by omega) 1 _, h.small.1, fun y hy => ?_⟩
  · simp only [hl]
    exact bx1.set1 _
  · simp only [hl]
    have ow : DkOwn W1 base (.agg #[.slice Av d.cells.length c, .slice Bv' (d.waits.length + 1) e', .bool d.gone]) ⟨d.cells, d.waits ++ [x], d.gone⟩ :=
      ⟨tt, _, _, rfl, htt, o1.kept hg nw, by rw [hl]; exact ho⟩
    exact ow.set_box bx1 1 _
  · rcases List.mem_append.1 hy with h1 | h1
    · exact h.small.2 y h1
    · obtain rfl : y = x := by simpa using h1
      exact hx
end Go.Proofs.Ytadgknkheachaaa
