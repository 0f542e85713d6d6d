/-
  What lies ahead of the drawing of a disk.
-/
import Derived.Test.YtimpdjlgfjehcaaMD
import Derived.Test.YtimpdjlgfjehcaaSpS
import Derived.Test.YtimpdjlgfjehcaaNew
import Derived.Deep.RegionHeld3
import Derived.Deep.RegionHeldLaw
import Derived.Deep.RegionLaw

namespace Go.Proofs.Ytimpdjlgfjehcaa
open Go.RowKit

theorem IsRd.not_row {w0 w : World} {B : Nat} {A : Option Addr} {m cap p base n sz : Nat} {t : TypeId} {v : Value} {xs : List Value} (h : IsRd w0 w B A m cap p) (ho : w.ownsRow base t sz v n xs) (ht : t ≠ 60) : v.ownBlock ≠ some B := by
  rcases ho.2 with ⟨rfl, _⟩ | ⟨g, c, cur, rfl, _, hg, _⟩
  · simp [Value.ownBlock]
  · intro e
    simp only [Value.ownBlock, Option.some.injEq] at e
    subst e
    have := hg.symm.trans h.blk
    injection this with this
    injection this with _ ht'
    exact ht ht'
theorem IsRd.ne_bx {w0 w : World} {B : Nat} {A : Option Addr} {m cap p g : Nat} {t : TypeId} {x y z : Value} (h : IsRd w0 w B A m cap p) (b : Bx w g t x y z) : g ≠ B := by
  intro e
  subst e
  have := (show w.heap[g]? = _ from b).symm.trans h.blk
  simp at this
theorem IsRd.past {w0 w w' : World} {B : Nat} {A : Option Addr} {m cap p : Nat} (h : IsRd w0 w B A m cap p) (hb : Below w.heap.size w w') : IsRd w0 w' B A m cap p :=
  ⟨(hb.block B h.lt).trans h.blk, h.bts, h.old, h.bel.trans (hb.mono h.bel.size), h.few⟩
theorem IsRd.drew' {w0 w : World} {B : Nat} {A : Option Addr} {m cap p : Nat} (h : IsRd w0 w B A m cap p) : IsRd w0 w.drew B A m cap p := ⟨h.blk, h.bts, h.old, h.bel.drew, h.few⟩
theorem IsRd.set {w0 w : World} {B : Nat} {A : Option Addr} {m cap p g : Nat} (h : IsRd w0 w B A m cap p) (hg : w0.heap.size ≤ g) (hne : B ≠ g) (i : Nat) (u : Value) : IsRd w0 (w.setCell ⟨g, i, none⟩ u) B A m cap p :=
  ⟨(Below.heap_setCell w ⟨g, i, none⟩ u B hne).trans h.blk, h.bts, h.old, h.bel.setCell (p := ⟨g, i, none⟩) hg u, h.few⟩
theorem Bx.grown {W W' : World} {g : Nat} {t : TypeId} {x y z : Value} (h : Bx W g t x y z) {r : Option Nat} (hg : W.grownBy W' r) (hr : some g ≠ r) : Bx W' g t x y z := (hg.block g h.lt hr).trans h

structure DS (w0 w : World) (B : Nat) (A : Option Addr) (m cap g3 base P : Nat) (Av : Option Addr) (c : Nat) (Bv : Option Addr) (e : Nat) (d : Dk) (W : World) : Prop where
  bx : Bx W g3 26 (.slice Av d.cells.length c) (.slice Bv d.waits.length e) (.bool d.gone)
  br : Bx W w.heap.size 26 (.slice none 0 0) (.slice none 0 0) (.bool false)
  own : DkOwn W base (.agg #[.slice Av d.cells.length c, .slice Bv d.waits.length e, .bool d.gone]) d
  rd : ∃ p, p ≤ P ∧ IsRd w0 W B A m cap p
  gr : w.grownBy W (some B)
  small : (∀ s ∈ d.cells, s.size ≤ 1000) ∧ (∀ x ∈ d.waits, x.text.size ≤ 1000)
theorem DS.drew {w0 w : World} {B : Nat} {A : Option Addr} {m cap g3 base P : Nat} {Av : Option Addr} {c : Nat} {Bv : Option Addr} {e : Nat} {d : Dk} {W : World} (h : DS w0 w B A m cap g3 base P Av c Bv e d W) : DS w0 w B A m cap g3 base P Av c Bv e d W.drew :=
  ⟨h.bx, h.br, h.own, by obtain ⟨p, hp, h⟩ := h.rd; exact ⟨p, hp, h.drew'⟩, h.gr.trans ⟨rfl, rfl, rfl, Nat.le_refl _, fun _ _ _ => rfl⟩, h.small⟩
/-- The reader has gone on. -/
theorem DS.read {w0 w : World} {B : Nat} {A : Option Addr} {m cap g3 base P Q : Nat} {Av : Option Addr} {c : Nat} {Bv : Option Addr} {e : Nat} {d : Dk} {W W' : World} (h : DS w0 w B A m cap g3 base P Av c Bv e d W) {p : Nat} (hr : IsRd w0 W' B A m cap p) (hp : p ≤ Q) (hg : W.grownBy W' (some B)) : DS w0 w B A m cap g3 base Q Av c Bv e d W' := by
  obtain ⟨p0, _, hr0⟩ := h.rd
  refine ⟨h.bx.grown hg (fun e => hr0.ne_bx h.bx (by injection e)), h.br.grown hg (fun e => hr0.ne_bx h.br (by injection e)), ?_, ⟨p, hp, hr⟩, h.gr.trans hg, h.small⟩
  obtain ⟨t, u1, u2, hv, ht, o1, o2⟩ := h.own
  exact ⟨t, u1, u2, hv, ht, o1.kept hg (.inr (hr0.not_row o1 (by rcases ht with rfl | rfl <;> decide))), o2.kept hg (.inr (hr0.not_row o2 (by decide)))⟩
end Go.Proofs.Ytimpdjlgfjehcaa

namespace Go.Proofs.Ytimpdjlgfjehcaa
open Go.RowKit

theorem grown_set {w W : World} {r : Option Nat} (h : w.grownBy W r) {g : Nat} (hg : w.heap.size ≤ g) (i : Nat) (u : Value) : w.grownBy (W.setCell ⟨g, i, none⟩ u) r :=
  ⟨h.os, h.tape, h.output, by simpa [World.setCell] using h.size, fun k hk hne => (Below.heap_setCell W ⟨g, i, none⟩ u k (by show k ≠ g; omega)).trans (h.block k hk hne)⟩
theorem DS.more {w0 w : World} {B : Nat} {A : Option Addr} {m cap g3 base P Q : Nat} {Av : Option Addr} {c : Nat} {Bv : Option Addr} {e : Nat} {d : Dk} {W : World} (h : DS w0 w B A m cap g3 base P Av c Bv e d W) (hq : P ≤ Q) : DS w0 w B A m cap g3 base Q Av c Bv e d W :=
  ⟨h.bx, h.br, h.own, by obtain ⟨p, hp, hr⟩ := h.rd; exact ⟨p, Nat.le_trans hp hq, hr⟩, h.gr, h.small⟩
theorem mem_set_small {l : List ByteArray} {k : Nat} {s : ByteArray} (h : ∀ t ∈ l, t.size ≤ 1000) (hs : s.size ≤ 1000) : ∀ t ∈ l.set k s, t.size ≤ 1000 := fun t ht => by
  rcases List.mem_or_eq_of_mem_set ht with h1 | h1
  · exact h t h1
  · rw [h1]; exact hs
theorem DS.put {w0 w : World} {B : Nat} {A : Option Addr} {m cap g3 base P : Nat} {g c : Nat} {Bv : Option Addr} {e : Nat} {d : Dk} {W : World} (h : DS w0 w B A m cap g3 base P (some ⟨g, 0, none⟩) c Bv e d W) (h0 : w0.heap.size ≤ base) (hb : w.heap.size ≤ base) (hn : 0 < d.cells.length) (k : Nat) (s : ByteArray) (hs : s.size ≤ 1000) :
    DS w0 w B A m cap g3 base P (some ⟨g, 0, none⟩) c Bv e ⟨d.cells.set k s, d.waits, d.gone⟩ (W.setCell ⟨g, k, none⟩ (.string s)) := by
  obtain ⟨tt, htt, o1, o2⟩ := h.own.rows
  obtain ⟨p, hp, hr⟩ := h.rd
  have hg := (o1.lt g rfl).1
  have n3 : g3 ≠ g := fun e => own_ne_box o1 h.bx (by rcases htt with rfl | rfl <;> decide) (by rw [e]; rfl)
  have n2 : w.heap.size ≠ g := fun e => own_ne_box o1 h.br (by rcases htt with rfl | rfl <;> decide) (by rw [e]; rfl)
  have nB : B ≠ g := fun e => hr.not_row o1 (by rcases htt with rfl | rfl <;> decide) (by rw [e]; rfl)
  have ow := own_put (gone := d.gone) htt o1 o2 k s
  refine ⟨?_, h.br.set (p := ⟨g, k, none⟩) n2 _, ?_, ⟨p, hp, hr.set (by omega) nB k _⟩, grown_set h.gr (by omega) k _, mem_set_small h.small.1 hs, h.small.2⟩
  · simp only [List.length_set]
    exact h.bx.set (p := ⟨g, k, none⟩) n3 _
  · simp only [List.length_set]
    exact ow

/-- The waiting writes of a disk are put anew, in its box. -/
theorem DS.app {w0 w : World} {B : Nat} {A : Option Addr} {m cap g3 base P : Nat} {Av : Option Addr} {c : Nat} {Bv : Option Addr} {e : Nat} {d : Dk} {W W1 : World} (h : DS w0 w B A m cap g3 base P Av c Bv e d W) (h0 : w0.heap.size ≤ base) (hb : w.heap.size ≤ base) (h3 : w.heap.size < g3) (h3' : w0.heap.size ≤ g3)
    (hg : W.grownBy W1 (Value.slice Bv d.waits.length e).ownBlock) (x : Wt) (hx : x.text.size ≤ 1000) (Bv' : Option Addr) (e' : Nat) (ho : W1.ownsRow base 32 2 (.slice Bv' (d.waits.length + 1) e') (d.waits.length + 1) (wtCells (d.waits ++ [x]))) :
    DS w0 w B A m cap g3 base P Av c Bv' e' ⟨d.cells, d.waits ++ [x], d.gone⟩ (W1.setCell ⟨g3, 1, none⟩ (.slice Bv' (d.waits.length + 1) e')) := by
  obtain ⟨tt, htt, o1, o2⟩ := h.own.rows
  obtain ⟨p, hp, hr⟩ := h.rd
  have nx := own_ne_box o2 h.bx (by decide)
  have nr := own_ne_box o2 h.br (by decide)
  have nB := hr.not_row o2 (by decide)
  have nw := own_ne o2 o1 (by rcases htt with rfl | rfl <;> decide)
  have bx1 := h.bx.grown hg nx.symm
  have br1 := h.br.grown hg nr.symm
  have hr1 : IsRd w0 W1 B A m cap p := ⟨(hg.block B hr.lt nB.symm).trans hr.blk, hr.bts, hr.old, hr.bel.grown hg hr.bel.size (fun k e => Nat.le_trans h0 (o2.lt k e).1), hr.few⟩
  have gw : w.grownBy W1 (some B) := ⟨hg.os.trans h.gr.os, hg.tape.trans h.gr.tape, hg.output.trans h.gr.output, Nat.le_trans h.gr.size hg.size, fun k hk hne => (hg.block k (Nat.lt_of_lt_of_le hk h.gr.size) (fun e => by have := (o2.lt k e.symm).1; omega)).trans (h.gr.block k hk hne)⟩
  have hl : (d.waits ++ [x]).length = d.waits.length + 1 := by rw [List.length_append]; rfl
  refine ⟨?_, br1.set (p := ⟨g3, 1, none⟩) (by show w.heap.size ≠ g3; omega) _, ?_, ⟨p, hp, hr1.set h3' (hr1.ne_bx bx1).symm 1 _⟩, grown_set gw (by omega) 1 _, h.small.1, fun y hy => ?_⟩
  · simp only [hl]
    exact bx1.set1 _
  · simp only [hl]
    have ow : DkOwn W1 base (.agg #[.slice Av d.cells.length c, .slice Bv' (d.waits.length + 1) e', .bool d.gone]) ⟨d.cells, d.waits ++ [x], d.gone⟩ :=
      ⟨tt, _, _, rfl, htt, o1.kept hg nw, by rw [hl]; exact ho⟩
    exact ow.set_box bx1 1 _
  · rcases List.mem_append.1 hy with h1 | h1
    · exact h.small.2 y h1
    · obtain rfl : y = x := by simpa using h1
      exact hx
end Go.Proofs.Ytimpdjlgfjehcaa

namespace Go.Proofs.Ytimpdjlgfjehcaa
open Go.RowKit

def DrPost (w0 w : World) (B : Nat) (A : Option Addr) (m cap p : Nat) (r : Ending) (w' : World) : Prop :=
  ∃ (d : Dk) (Av : Option Addr) (c : Nat) (Bv : Option Addr) (e p' : Nat), r = .returned (.agg #[.slice Av d.cells.length c, .slice Bv d.waits.length e, .bool d.gone]) ∧ DkAt w' Av Bv d ∧ Bulk d ∧ IsRd w0 w' B A m cap p' ∧ p' ≤ p + 2000 ∧ w.grownBy w' (some B)

theorem lies_drop {W : World} {g : Nat} {ss : List ByteArray} (h : Lies W (some ⟨g, 0, none⟩) (strCells ss)) : Lies W (some ⟨g, 1, none⟩) (strCells (ss.drop 1)) := by
  intro h0
  have hl : 0 < (strCells ss).length := by
    rw [strCells_len] at h0 ⊢
    rw [List.length_drop] at h0
    omega
  obtain ⟨b, off, e, hlt, hc⟩ := h hl
  injection e with e
  injection e with e1 e2
  subst e1 e2
  refine ⟨g, 1, rfl, hlt, fun j v hj => ?_⟩
  have := hc (1 + j) v (by simpa [strCells, List.getElem?_drop, Nat.add_comm] using hj)
  rwa [Nat.zero_add] at this
theorem bulk_of {d : Dk} (h : (∀ s ∈ d.cells, s.size ≤ 1000) ∧ (∀ x ∈ d.waits, x.text.size ≤ 1000)) (hc : d.cells.length ≤ 64) (hw : d.waits.length ≤ 200) : Bulk d :=
  ⟨by omega, by omega, fun s hs => by have := h.1 s hs; unfold maxLen; omega, fun x hx => by have := h.2 x hx; unfold maxLen; omega⟩

theorem DS.fin {w0 w : World} {B : Nat} {A : Option Addr} {m cap g3 base P p : Nat} {Av : Option Addr} {c : Nat} {Bv : Option Addr} {e : Nat} {d : Dk} {W : World} (D : DS w0 w B A m cap g3 base P Av c Bv e d W) (hb : w.heap.size < base) (h0 : w0.heap.size ≤ w.heap.size) (hP : P ≤ p + 2000) (hc : d.cells.length ≤ 64) (hw : d.waits.length ≤ 200) (x y z : Value) :
    DrPost w0 w B A m cap p (.returned (.agg #[.slice Av d.cells.length c, .slice Bv d.waits.length e, .bool d.gone])) (((W.setCell ⟨w.heap.size, 0, none⟩ x).setCell ⟨w.heap.size, 1, none⟩ y).setCell ⟨w.heap.size, 2, none⟩ z) := by
  obtain ⟨p', hp, hr⟩ := D.rd
  have hne := (hr.ne_bx D.br).symm
  exact ⟨d, Av, c, Bv, e, p', rfl, (D.own.box (R := w.heap.size) hb _ _ _).lies, bulk_of D.small hc hw, ((hr.set h0 hne 0 _).set h0 hne 1 _).set h0 hne 2 _, by omega, grown_set (grown_set (grown_set D.gr (Nat.le_refl _) 0 _) (Nat.le_refl _) 1 _) (Nat.le_refl _) 2 _⟩

theorem DS.fin0 {w0 w : World} {B : Nat} {A : Option Addr} {m cap g3 base P p : Nat} {g c : Nat} {Bv : Option Addr} {e : Nat} {d : Dk} {W : World} (D : DS w0 w B A m cap g3 base P (some ⟨g, 0, none⟩) c Bv e d W) (hb : w.heap.size < base) (h0 : w0.heap.size ≤ w.heap.size) (h3 : w.heap.size < g3) (hP : P ≤ p + 2000) (hc : d.cells.length = 64) (hw : d.waits.length ≤ 200) (c' : Nat) (v x y z : Value) :
    DrPost w0 w B A m cap p (.returned (.agg #[.slice (some ⟨g, 1, none⟩) 63 c', .slice Bv d.waits.length e, .bool d.gone])) ((((W.setCell ⟨g3, 0, none⟩ v).setCell ⟨w.heap.size, 0, none⟩ x).setCell ⟨w.heap.size, 1, none⟩ y).setCell ⟨w.heap.size, 2, none⟩ z) := by
  obtain ⟨p', hp, hr⟩ := D.rd
  have hne := (hr.ne_bx D.br).symm
  have ow := (D.own.set_box D.bx 0 v).box (R := w.heap.size) hb x y z
  have hl : (d.cells.drop 1).length = 63 := by rw [List.length_drop, hc]
  have at_ := ow.lies
  refine ⟨⟨d.cells.drop 1, d.waits, d.gone⟩, some ⟨g, 1, none⟩, c', Bv, e, p', by simp only [hl], ⟨lies_drop at_.1, at_.2⟩, bulk_of ⟨fun s hs => D.small.1 s (List.mem_of_mem_drop hs), D.small.2⟩ (by simp only [hl]; omega) hw, (((hr.set (by omega) (hr.ne_bx D.bx).symm 0 v).set h0 hne 0 _).set h0 hne 1 _).set h0 hne 2 _, by omega, grown_set (grown_set (grown_set (grown_set D.gr (by omega) 0 v) (Nat.le_refl _) 0 _) (Nat.le_refl _) 1 _) (Nat.le_refl _) 2 _⟩

/-- The disk is gone. -/
theorem DS.go {w0 w : World} {B : Nat} {A : Option Addr} {m cap g3 base P : Nat} {Av : Option Addr} {c : Nat} {Bv : Option Addr} {e : Nat} {d : Dk} {W : World} (D : DS w0 w B A m cap g3 base P Av c Bv e d W) (h0 : w0.heap.size ≤ g3) (h3 : w.heap.size < g3) :
    DS w0 w B A m cap g3 base P Av c Bv e ⟨d.cells, d.waits, true⟩ (W.setCell ⟨g3, 2, none⟩ (.bool true)) := by
  obtain ⟨p, hp, hr⟩ := D.rd
  refine ⟨D.bx.set2 _, D.br.set (p := ⟨g3, 2, none⟩) (by show w.heap.size ≠ g3; omega) _, ?_, ⟨p, hp, hr.set h0 (hr.ne_bx D.bx).symm 2 _⟩, grown_set D.gr (by omega) 2 _, D.small⟩
  obtain ⟨t, u1, u2, hv, ht, o1, o2⟩ := D.own.set_box D.bx 2 (.bool true)
  refine ⟨t, u1, u2, ?_, ht, o1, o2⟩
  simp only [Value.agg.injEq, Array.mk.injEq, List.cons.injEq, and_true] at hv ⊢
  exact ⟨hv.1, hv.2⟩
end Go.Proofs.Ytimpdjlgfjehcaa

namespace Go.Proofs.Ytimpdjlgfjehcaa
open Go.RowKit

theorem own_cap {w : World} {base g n c m : Nat} {t : TypeId} {sz : Nat} {xs : List Value} (h : w.ownsRow base t sz (.slice (some ⟨g, 0, none⟩) n c) m xs) : m ≤ c ∧ c ≤ maxLen := by
  rcases h.2 with ⟨e, _⟩ | ⟨g', c', cur, e, _, _, h1, h2, _⟩
  · cases e
  · injection e with _ _ e3
    subst e3
    exact ⟨h1, h2⟩
theorem DS.alloc {w0 w : World} {B : Nat} {A : Option Addr} {m cap g3 base P : Nat} {Av : Option Addr} {c : Nat} {Bv : Option Addr} {e : Nat} {d : Dk} {W : World} (h : DS w0 w B A m cap g3 base P Av c Bv e d W) (o : Obj) : DS w0 w B A m cap g3 base P Av c Bv e d (W.alloc o) := by
  obtain ⟨p, hp, hr⟩ := h.rd
  have bl : Below W.heap.size W (W.alloc o) := bel_new (Below.refl _ _) _
  exact ⟨h.bx.alloc o, h.br.alloc o, h.own.below bl, ⟨p, hp, hr.alloc o⟩, h.gr.trans (World.grownBy_alloc W o (some B)), h.small⟩
theorem grown_self (w : World) (r : Option Nat) : w.grownBy w r := ⟨rfl, rfl, rfl, Nat.le_refl _, fun _ _ _ => rfl⟩
theorem lit2 (W w2 : World) (B : Nat) (a b : Int) (hB : B < W.heap.size) (g : (W.alloc (.cells #[.int .i64 a, .int .i64 b] 3)).grownBy w2 (some B)) (k : Nat) (hk : k < 2) :
    ∃ y : Int, (y = a ∨ y = b) ∧ w2.cell? ⟨W.heap.size, k, none⟩ = some (.int .i64 y) := by
  rw [World.cell?_of_block (w := W.alloc (.cells #[.int .i64 a, .int .i64 b] 3)) (g.block W.heap.size (by simp) (fun e => by injection e with e; omega))]
  rcases (show k = 0 ∨ k = 1 by omega) with rfl | rfl
  · exact ⟨a, .inl rfl, by rw [World.cell?_alloc_mark]; rfl⟩
  · exact ⟨b, .inr rfl, by rw [World.cell?_alloc_mark]; rfl⟩
end Go.Proofs.Ytimpdjlgfjehcaa
