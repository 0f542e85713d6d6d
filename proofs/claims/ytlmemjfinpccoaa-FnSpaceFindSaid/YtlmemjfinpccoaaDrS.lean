/-
  Space that is drawn.
-/
import Derived.Test.YtlmemjfinpccoaaDraw
import Derived.Test.YtlmemjfinpccoaaSpT
namespace Go.Proofs.Ytlmemjfinpccoaa
open Go.RowKit

/-- Numbers that are small. -/
def Bnd (xs : List Int) : Prop := ∀ x ∈ xs, -10 ≤ x ∧ x ≤ 2000
theorem Bnd.set {xs : List Int} (h : Bnd xs) (k : Nat) {x : Int} (hx : -10 ≤ x ∧ x ≤ 2000) : Bnd (xs.set k x) := fun y hy => by
  rcases List.mem_or_eq_of_mem_set hy with h1 | h1
  · exact h y h1
  · rw [h1]; exact hx
/-- A space that is being drawn: what the reader, the box of the result, the box of the space and its rows are. -/
structure Dr (w0 w : World) (B : Nat) (A : Option Addr) (m cap g p q c e lim : Nat) (W : World) : Prop where
  rd : ∃ k, k ≤ lim ∧ IsRd w0 W B A m cap k
  out : B2 W w.heap.size 24 (.slice none 0 0) (.slice none 0 0)
  box : B2 W g 24 (.slice (some ⟨p, 0, none⟩) 64 c) (.slice (some ⟨q, 0, none⟩) 64 e)
  row1 : ∃ xs, Bnd xs ∧ W.ownsRow (w.heap.size + 1) 3 1 (.slice (some ⟨p, 0, none⟩) 64 c) 64 (intCells xs)
  row2 : ∃ ys, W.ownsRow (w.heap.size + 1) 3 1 (.slice (some ⟨q, 0, none⟩) 64 e) 64 (intCells ys)
  grow : w.grownBy W (some B)
  top : w.heap.size < g ∧ w0.heap.size ≤ w.heap.size
  pq : p ≠ q ∧ g ≠ p ∧ g ≠ q ∧ w.heap.size < p ∧ w.heap.size < q
/-- A space is drawn. -/
def DrawnS (w0 w : World) (B : Nat) (A : Option Addr) (m cap lim : Nat) (r : Ending) (w' : World) : Prop :=
  ∃ A1 c1 A2 c2 s, r = .returned (.agg #[.slice A1 s.refs.length c1, .slice A2 s.last.length c2]) ∧ SpAt w' A1 A2 s ∧ (2 ≤ s.refs.length ∧ s.refs.length ≤ 100) ∧ (2 ≤ s.last.length ∧ s.last.length ≤ 100) ∧ (∃ k, k ≤ lim ∧ IsRd w0 w' B A m cap k) ∧ w.grownBy w' (some B)
def lv : Nat → Int
  | 0 => -1
  | 1 => 901
  | _ => 0
section
variable {w0 w W W' : World} {B : Nat} {A : Option Addr} {m cap g p q c e lim : Nat}
theorem Dr.ne (h : Dr w0 w B A m cap g p q c e lim W) : B ≠ w.heap.size ∧ B ≠ g ∧ B ≠ p ∧ B ≠ q := by
  obtain ⟨k, _, hr⟩ := h.rd
  obtain ⟨xs, _, h1⟩ := h.row1
  obtain ⟨ys, h2⟩ := h.row2
  refine ⟨fun e => ?_, fun e => ?_, fun e => rd_not_row hr h1 (by rw [e]; rfl), fun e => rd_not_row hr h2 (by rw [e]; rfl)⟩
  · have a := hr.blk
    rw [e, h.out] at a
    simp at a
  · have a := hr.blk
    rw [e, h.box] at a
    simp at a
theorem Dr.mono (h : Dr w0 w B A m cap g p q c e lim W) {l2 : Nat} (hl : lim ≤ l2) : Dr w0 w B A m cap g p q c e l2 W := by
  obtain ⟨k, hk, hr⟩ := h.rd
  exact ⟨⟨k, by omega, hr⟩, h.out, h.box, h.row1, h.row2, h.grow, h.top, h.pq⟩
theorem Dr.drew (h : Dr w0 w B A m cap g p q c e lim W) : Dr w0 w B A m cap g p q c e lim W.drew := by
  obtain ⟨k, hk, hr⟩ := h.rd
  exact ⟨⟨k, hk, hr.drew⟩, h.out, h.box, h.row1, h.row2, ⟨h.grow.os, h.grow.tape, h.grow.output, h.grow.size, h.grow.block⟩, h.top, h.pq⟩
theorem Dr.call (h : Dr w0 w B A m cap g p q c e lim W) (hl : lim ≤ 900000) (n : Int) (h1 : 1 ≤ n) (h2 : n ≤ 1000) :
    Calls Try.prog 78 #[.pointer (some ⟨B, 0, none⟩), .int .i64 n] W fun r W' => ∃ x : Int, 0 ≤ x ∧ x < n ∧ r = .returned (.int .i64 x) ∧ Dr w0 w B A m cap g p q c e (lim + 1) W' ∧ W.grownBy W' (some B) := by
  obtain ⟨k, hk, hr⟩ := h.rd
  obtain ⟨n1, n2, n3, n4⟩ := h.ne
  refine (pick_rd w0 W B A m cap k n hr (by omega) h1 (by omega)).mono fun r W' ⟨x, x0, x1, he, hr', hg⟩ => ⟨x, x0, x1, he, ?_⟩
  obtain ⟨xs, hb, o1⟩ := h.row1
  obtain ⟨ys, o2⟩ := h.row2
  exact ⟨⟨⟨k + 1, by omega, hr'⟩, h.out.grown hg (by simp; omega), h.box.grown hg (by simp; omega), ⟨xs, hb, own_past hr o1 hg⟩, ⟨ys, own_past hr o2 hg⟩, grown_trans h.grow hg, h.top, h.pq⟩, hg⟩
theorem Dr.put1 (h : Dr w0 w B A m cap g p q c e lim W) (k : Nat) {x : Int} (hx : -10 ≤ x ∧ x ≤ 2000) : Dr w0 w B A m cap g p q c e lim (W.setCell ⟨p, k, none⟩ (.int .i64 x)) := by
  obtain ⟨j, hj, hr⟩ := h.rd
  obtain ⟨n1, n2, n3, n4⟩ := h.ne
  obtain ⟨xs, hb, o1⟩ := h.row1
  obtain ⟨ys, o2⟩ := h.row2
  obtain ⟨a1, a2, a3, a4, a5⟩ := h.pq
  have hg := grown_set W ⟨p, k, none⟩ (.int .i64 x)
  refine ⟨⟨j, hj, hr.kept hg (fun b e => by simp at e; subst e; exact ⟨n3.symm, by have := h.top.2; omega⟩)⟩, h.out.set (by show w.heap.size ≠ p; omega) _, h.box.set a2 _, ⟨_, hb.set k hx, own_put o1 x⟩, ⟨ys, o2.kept hg (.inr (by simpa [Value.ownBlock] using a1.symm))⟩, ?_, h.top, h.pq⟩
  exact ⟨hg.os.trans h.grow.os, hg.tape.trans h.grow.tape, hg.output.trans h.grow.output, Nat.le_trans h.grow.size hg.size, fun i hi hne => (hg.block i (Nat.lt_of_lt_of_le hi h.grow.size) (by simp; omega)).trans (h.grow.block i hi hne)⟩
theorem Dr.put2 (h : Dr w0 w B A m cap g p q c e lim W) (k : Nat) (x : Int) : Dr w0 w B A m cap g p q c e lim (W.setCell ⟨q, k, none⟩ (.int .i64 x)) := by
  obtain ⟨j, hj, hr⟩ := h.rd
  obtain ⟨n1, n2, n3, n4⟩ := h.ne
  obtain ⟨xs, hb, o1⟩ := h.row1
  obtain ⟨ys, o2⟩ := h.row2
  obtain ⟨a1, a2, a3, a4, a5⟩ := h.pq
  have hg := grown_set W ⟨q, k, none⟩ (.int .i64 x)
  refine ⟨⟨j, hj, hr.kept hg (fun b e => by simp at e; subst e; exact ⟨n4.symm, by have := h.top.2; omega⟩)⟩, h.out.set (by show w.heap.size ≠ q; omega) _, h.box.set a3 _, ⟨xs, hb, o1.kept hg (.inr (by simpa [Value.ownBlock] using a1))⟩, ⟨_, own_put o2 x⟩, ?_, h.top, h.pq⟩
  exact ⟨hg.os.trans h.grow.os, hg.tape.trans h.grow.tape, hg.output.trans h.grow.output, Nat.le_trans h.grow.size hg.size, fun i hi hne => (hg.block i (Nat.lt_of_lt_of_le hi h.grow.size) (by simp; omega)).trans (h.grow.block i hi hne)⟩
theorem Dr.alloc (h : Dr w0 w B A m cap g p q c e lim W) (o : Obj) : Dr w0 w B A m cap g p q c e lim (W.alloc o) := by
  obtain ⟨j, hj, hr⟩ := h.rd
  obtain ⟨xs, hb, o1⟩ := h.row1
  obtain ⟨ys, o2⟩ := h.row2
  exact ⟨⟨j, hj, hr.alloc o⟩, h.out.alloc o, h.box.alloc o, ⟨xs, hb, o1.alloc o⟩, ⟨ys, o2.alloc o⟩, grown_trans h.grow (World.grownBy_alloc W o _), h.top, h.pq⟩
/-- What it tells of the cells. -/
theorem Dr.tell (h : Dr w0 w B A m cap g p q c e lim W) : W.cell? ⟨g, 0, none⟩ = some (.slice (some ⟨p, 0, none⟩) 64 c) ∧ W.cell? ⟨g, 1, none⟩ = some (.slice (some ⟨q, 0, none⟩) 64 e) := h.box.cells.1
theorem Dr.cell1 (h : Dr w0 w B A m cap g p q c e lim W) {k : Nat} (hk : k < 64) : ∃ x, -10 ≤ x ∧ x ≤ 2000 ∧ W.cell? ⟨p, k, none⟩ = some (.int .i64 x) ∧ W.frozen? ⟨p, k, none⟩ = false := by
  obtain ⟨xs, hb, o1⟩ := h.row1
  have hl := o1.1
  rw [intCells_len] at hl
  have := hb xs[k] (by simp)
  obtain ⟨c1, c2⟩ := cell_own o1 (k := k) (by omega) rfl
  exact ⟨_, this.1, this.2, c1, c2⟩
theorem Dr.cell2 (h : Dr w0 w B A m cap g p q c e lim W) {k : Nat} (hk : k < 64) : ∃ x, W.cell? ⟨q, k, none⟩ = some (.int .i64 x) ∧ W.frozen? ⟨q, k, none⟩ = false := by
  obtain ⟨ys, o2⟩ := h.row2
  have hl := o2.1
  rw [intCells_len] at hl
  obtain ⟨c1, c2⟩ := cell_own o2 (k := k) (by omega) rfl
  exact ⟨_, c1, c2⟩
theorem llit_at (j : Nat) (hj : j < 3) : (#[.int .i64 (-1), .int .i64 901, .int .i64 0] : Array Value)[j]? = some (.int .i64 (lv j)) := by
  match j, hj with
  | 0, _ => rfl
  | 1, _ => rfl
  | 2, _ => rfl
/-- The literal row, kept. -/
structure LLit (B g : Nat) (W : World) : Prop where
  cell : ∀ j, j < 3 → W.cell? ⟨g, j, none⟩ = some (.int .i64 (lv j))
  lt : g < W.heap.size
  ne : g ≠ B
theorem LLit.new {W W' : World} {B : Nat} {T : TypeId} (g : (W.alloc (.cells #[.int .i64 (-1), .int .i64 901, .int .i64 0] T)).grownBy W' (some B)) (hB : B < W.heap.size) : LLit B W.heap.size W' :=
  ⟨fun j hj => by
    rw [World.cell?_of_block (g.block W.heap.size (by simp) (by intro e; cases e; omega)), World.cell?_alloc_mark]
    exact llit_at j hj, Nat.lt_of_lt_of_le (by simp) g.size, by omega⟩
theorem LLit.newD {W W' : World} {B : Nat} {T : TypeId} (g : (W.alloc (.cells #[.int .i64 (-1), .int .i64 901, .int .i64 0] T)).drew.grownBy W' (some B)) (hB : B < W.heap.size) : LLit B W.heap.size W' :=
  LLit.new (W := W) ⟨g.os, g.tape, g.output, g.size, g.block⟩ hB
theorem LLit.grown {W W' : World} {B k : Nat} (h : LLit B k W) (g : W.grownBy W' (some B)) : LLit B k W' :=
  ⟨fun j hj => by rw [World.cell?_of_block (g.block k h.lt (by intro e; cases e; exact h.ne rfl))]; exact h.cell j hj, Nat.lt_of_lt_of_le h.lt g.size, h.ne⟩
theorem llit_new (j : Nat) (hj : j < 3) (W : World) : (W.alloc (.cells #[.int .i64 (-1), .int .i64 901, .int .i64 0] 3)).cell? ⟨W.heap.size, j, none⟩ = some (.int .i64 (lv j)) := by
  rw [World.cell?_alloc_mark]
  exact llit_at j hj
theorem Dr.lt (h : Dr w0 w B A m cap g p q c e lim W) : B < W.heap.size := by
  obtain ⟨k, _, hr⟩ := h.rd
  exact hr.lt

theorem Dr.qlt (h : Dr w0 w B A m cap g p q c e lim W) : q < W.heap.size := by
  obtain ⟨ys, o2⟩ := h.row2
  exact (o2.lt q rfl).2
theorem Dr.plt (h : Dr w0 w B A m cap g p q c e lim W) : p < W.heap.size := by
  obtain ⟨ys, _, o2⟩ := h.row1
  exact (o2.lt p rfl).2
theorem DrawnS.alloc {r : Ending} (h : DrawnS w0 w B A m cap lim r W) (o : Obj) : DrawnS w0 w B A m cap lim r (W.alloc o) := by
  obtain ⟨A1, c1, A2, c2, s, e, ⟨h1, h2⟩, l1, l2, ⟨k, hk, hr⟩, hg⟩ := h
  exact ⟨A1, c1, A2, c2, s, e, ⟨h1.alloc o, h2.alloc o⟩, l1, l2, ⟨k, hk, hr.alloc o⟩, grown_trans hg (World.grownBy_alloc W o _)⟩
theorem DrawnS.drew {r : Ending} (h : DrawnS w0 w B A m cap lim r W) : DrawnS w0 w B A m cap lim r W.drew := by
  obtain ⟨A1, c1, A2, c2, s, e, h1, l1, l2, ⟨k, hk, hr⟩, hg⟩ := h
  exact ⟨A1, c1, A2, c2, s, e, h1, l1, l2, ⟨k, hk, hr.drew⟩, ⟨hg.os, hg.tape, hg.output, hg.size, hg.block⟩⟩

theorem Lies.set {W : World} {A : Option Addr} {xs : List Value} (h : Lies W A xs) {a : Addr} (hne : ∀ b o, A = some ⟨b, o, none⟩ → b ≠ a.block) (u : Value) : Lies (W.setCell a u) A xs := fun h0 => by
  obtain ⟨b, off, e, hlt, hc⟩ := h h0
  exact ⟨b, off, e, by rw [size_set]; exact hlt, fun j v hj => (World.cell?_of_block (a := ⟨b, off + j, none⟩) (Below.heap_setCell W a u b (hne b off e))).trans (hc j v hj)⟩
theorem DrawnS.fin {A1 A2 : Option Addr} {c1 c2 n1 n2 lim2 : Nat} {s : Sp} (hn1 : n1 = s.refs.length) (hn2 : n2 = s.last.length) (h1 : Lies W A1 (intCells s.refs)) (h2 : Lies W A2 (intCells s.last)) (l1 : 2 ≤ s.refs.length ∧ s.refs.length ≤ 100) (l2 : 2 ≤ s.last.length ∧ s.last.length ≤ 100)
    (e1 : ∀ b o, A1 = some ⟨b, o, none⟩ → b ≠ w.heap.size) (e2 : ∀ b o, A2 = some ⟨b, o, none⟩ → b ≠ w.heap.size) (hr : ∃ k, k ≤ lim ∧ IsRd w0 W B A m cap k) (hl : lim ≤ lim2) (hne : B ≠ w.heap.size) (h0 : w0.heap.size ≤ w.heap.size) (hg : w.grownBy W (some B)) (a b : Value) :
    DrawnS w0 w B A m cap lim2 (.returned (.agg #[.slice A1 n1 c1, .slice A2 n2 c2])) ((W.setCell ⟨w.heap.size, 0, none⟩ a).setCell ⟨w.heap.size, 1, none⟩ b) := by
  subst hn1 hn2
  obtain ⟨k, hk, hr⟩ := hr
  have g1 := grown_set W ⟨w.heap.size, 0, none⟩ a
  have g2 := grown_set (W.setCell ⟨w.heap.size, 0, none⟩ a) ⟨w.heap.size, 1, none⟩ b
  refine ⟨A1, c1, A2, c2, s, rfl, ⟨(h1.set (a := ⟨w.heap.size, 0, none⟩) e1 a).set (a := ⟨w.heap.size, 1, none⟩) e1 b, (h2.set (a := ⟨w.heap.size, 0, none⟩) e2 a).set (a := ⟨w.heap.size, 1, none⟩) e2 b⟩, l1, l2, ⟨k, by omega, (hr.kept g1 (fun j e => by simp at e; subst e; exact ⟨hne.symm, h0⟩)).kept g2 (fun j e => by simp at e; subst e; exact ⟨hne.symm, h0⟩)⟩, ?_⟩
  exact ⟨g2.os.trans (g1.os.trans hg.os), g2.tape.trans (g1.tape.trans hg.tape), g2.output.trans (g1.output.trans hg.output), Nat.le_trans hg.size (Nat.le_trans g1.size g2.size), fun i hi hn => (g2.block i (Nat.lt_of_lt_of_le hi (Nat.le_trans hg.size g1.size)) (by simp; omega)).trans ((g1.block i (Nat.lt_of_lt_of_le hi hg.size) (by simp; omega)).trans (hg.block i hi hn))⟩
theorem row_cap {W : World} {base n cc : Nat} {v : Addr} {xs : List Value} (h : W.ownsRow base 3 1 (.slice (some v) n cc) n xs) : n ≤ cc := by
  rcases h.2 with ⟨e, _⟩ | ⟨g', cap, cur, e, _, _, hnc, _⟩
  · cases e
  · cases e
    exact hnc
theorem Dr.caps (h : Dr w0 w B A m cap g p q c e lim W) : 64 ≤ c ∧ 64 ≤ e := by
  obtain ⟨xs, _, o1⟩ := h.row1
  obtain ⟨ys, o2⟩ := h.row2
  exact ⟨row_cap o1, row_cap o2⟩
/-- Without its first number of references. -/
theorem Dr.fin2 (h : Dr w0 w B A m cap g p q c e lim W) {l2 c1 : Nat} {v : Value} (hl : lim ≤ l2) (a b : Value) : DrawnS w0 w B A m cap l2 (.returned (.agg #[.slice (some ⟨p, 1, none⟩) 63 c1, .slice (some ⟨q, 0, none⟩) 64 e])) (((W.setCell ⟨g, 0, none⟩ v).setCell ⟨w.heap.size, 0, none⟩ a).setCell ⟨w.heap.size, 1, none⟩ b) := by
  obtain ⟨xs, _, o1⟩ := h.row1
  obtain ⟨ys, o2⟩ := h.row2
  have n1 := o1.1
  have n2 := o2.1
  rw [intCells_len] at n1 n2
  obtain ⟨a1, a2, a3, a4, a5⟩ := h.pq
  obtain ⟨b1, b2, b3, b4⟩ := h.ne
  obtain ⟨k, hk, hr⟩ := h.rd
  have hg := grown_set W ⟨g, 0, none⟩ v
  have q1 := o1.kept hg (.inr (by simpa [Value.ownBlock] using a2.symm))
  have q2 := o2.kept hg (.inr (by simpa [Value.ownBlock] using a3.symm))
  have hrow := row_lies q1
  have ht := h.top
  refine DrawnS.fin (s := ⟨xs.drop 1, ys⟩) (by simp only [List.length_drop]; omega) (by simp only; omega) ?_ (row_lies q2) (by simp only [List.length_drop]; omega) (by simp only; omega) (fun b o e => by cases e; omega) (fun b o e => by cases e; omega)
    ⟨k, hk, hr.kept hg (fun j e => by simp at e; subst e; exact ⟨b2.symm, by omega⟩)⟩ hl b1 ht.2 ⟨hg.os.trans h.grow.os, hg.tape.trans h.grow.tape, hg.output.trans h.grow.output, Nat.le_trans h.grow.size hg.size, fun i hi hn => (hg.block i (Nat.lt_of_lt_of_le hi h.grow.size) (by simp; omega)).trans (h.grow.block i hi hn)⟩ a b
  intro _
  obtain ⟨bb, off, eb, hlt, hc⟩ := hrow (by rw [intCells_len]; omega)
  cases eb
  refine ⟨p, 1, rfl, hlt, fun j u hj => ?_⟩
  have := hc (j + 1) u (by simp only [intCells, List.map_drop, List.getElem?_drop] at hj; simp only [intCells]; rw [Nat.add_comm j 1]; exact hj)
  rw [show 1 + j = 0 + (j + 1) by omega]
  exact this
/-- One number of births more. -/
theorem Dr.fin3 (h : Dr w0 w B A m cap g p q c e lim W) {l2 : Nat} {ys : List Int} {v : Value} (hl : lim ≤ l2) (hy : ys.length = 64) (ho : W'.ownsRow (w.heap.size + 1) 3 1 v (64 + 1) (intCells ys ++ [.int .i64 0])) (hg : W.grownBy W' (some q)) (hloc : v.ownBlock = some q ∨ v.ownBlock = some W.heap.size) :
    ∃ g' cap', v = .slice (some ⟨g', 0, none⟩) 65 cap' ∧ B2 W' g 24 (.slice (some ⟨p, 0, none⟩) 64 c) (.slice (some ⟨q, 0, none⟩) 64 e) ∧ B2 W' w.heap.size 24 (.slice none 0 0) (.slice none 0 0) ∧ w.heap.size ≠ g ∧
      ∀ a b, DrawnS w0 w B A m cap l2 (.returned (.agg #[.slice (some ⟨p, 0, none⟩) 64 c, .slice (some ⟨g', 0, none⟩) 65 cap'])) (((W'.setCell ⟨g, 1, none⟩ v).setCell ⟨w.heap.size, 0, none⟩ a).setCell ⟨w.heap.size, 1, none⟩ b) := by
  obtain ⟨xs, _, o1⟩ := h.row1
  have n1 := o1.1
  rw [intCells_len] at n1
  obtain ⟨a1, a2, a3, a4, a5⟩ := h.pq
  obtain ⟨b1, b2, b3, b4⟩ := h.ne
  obtain ⟨k, hk, hr⟩ := h.rd
  have ht := h.top
  have hgl := h.box.lt
  have hwl := h.out.lt
  have hpl : p < W.heap.size := (o1.lt p rfl).2
  have q1 := o1.kept hg (.inr (by simpa [Value.ownBlock] using a1))
  rcases ho.2 with ⟨e1, _⟩ | ⟨g', cap', cur, e1, hx⟩
  · subst e1
    simp [Value.ownBlock] at hloc
  subst e1
  have hn : g' ≠ g ∧ g' ≠ w.heap.size := by
    simp only [Value.ownBlock, Option.some.injEq] at hloc
    omega
  have hB1 := h.box.grown hg (by simp; omega)
  have hB2 := h.out.grown hg (by simp; omega)
  refine ⟨g', cap', rfl, hB1, hB2, by omega, fun a b => ?_⟩
  have hg2 := grown_set W' ⟨g, 1, none⟩ (.slice (some ⟨g', 0, none⟩) (64 + 1) cap')
  have r1 := q1.kept hg2 (.inr (by simpa [Value.ownBlock] using a2.symm))
  have r2 := ho.kept hg2 (.inr (by simpa [Value.ownBlock] using hn.1))
  have he : intCells ys ++ [.int .i64 0] = intCells (ys ++ [0]) := by simp [intCells]
  rw [he] at r2
  refine DrawnS.fin (s := ⟨xs, ys ++ [0]⟩) (by simp only; omega) (by simp only [List.length_append, List.length_cons, List.length_nil]; omega) (row_lies r1) (row_lies r2) (by simp only; omega) (by simp only [List.length_append, List.length_cons, List.length_nil]; omega) (fun b o e => by cases e; omega) (fun b o e => by cases e; omega)
    ⟨k, hk, (hr.kept hg (fun j e => by simp at e; subst e; exact ⟨b4.symm, by omega⟩)).kept hg2 (fun j e => by simp at e; subst e; exact ⟨b2.symm, by omega⟩)⟩ hl b1 ht.2 ⟨hg2.os.trans (hg.os.trans h.grow.os), hg2.tape.trans (hg.tape.trans h.grow.tape), hg2.output.trans (hg.output.trans h.grow.output), Nat.le_trans h.grow.size (Nat.le_trans hg.size hg2.size), fun i hi hn => ?_⟩ a b
  exact (hg2.block i (Nat.lt_of_lt_of_le hi (Nat.le_trans h.grow.size hg.size)) (by simp; omega)).trans ((hg.block i (Nat.lt_of_lt_of_le hi h.grow.size) (by simp; omega)).trans (h.grow.block i hi hn))
/-- As it stands. -/
theorem Dr.fin (h : Dr w0 w B A m cap g p q c e lim W) {l2 : Nat} (hl : lim ≤ l2) (a b : Value) : DrawnS w0 w B A m cap l2 (.returned (.agg #[.slice (some ⟨p, 0, none⟩) 64 c, .slice (some ⟨q, 0, none⟩) 64 e])) ((W.setCell ⟨w.heap.size, 0, none⟩ a).setCell ⟨w.heap.size, 1, none⟩ b) := by
  obtain ⟨xs, _, o1⟩ := h.row1
  obtain ⟨ys, o2⟩ := h.row2
  have n1 := o1.1
  have n2 := o2.1
  rw [intCells_len] at n1 n2
  obtain ⟨a1, a2, a3, a4, a5⟩ := h.pq
  exact DrawnS.fin (s := ⟨xs, ys⟩) (by simp only; omega) (by simp only; omega) (row_lies o1) (row_lies o2) (by simp only; omega) (by simp only; omega) (fun b o e => by cases e; omega) (fun b o e => by cases e; omega) h.rd hl h.ne.1 h.top.2 h.grow a b
end


set_option maxRecDepth 100000 in
set_option maxHeartbeats 8000000 in
theorem draw_space (w0 w : World) (B : Nat) (A : Option Addr) (m cap pk : Nat) (hr : IsRd w0 w B A m cap pk) (hpk : pk ≤ 1000) :
    Calls Try.prog 77 #[.pointer (some ⟨B, 0, none⟩)] w (DrawnS w0 w B A m cap (pk + 100)) := by
  have hN := fun w => spec_new w
  have b0 := B2.new w 24 (.slice none 0 0) (.slice none 0 0)
  have hlen1 : newS.refs.length = 64 := by simp [newS]
  have hlen2 : newS.last.length = 64 := by simp [newS]
  have hsm : Bnd newS.refs := fun x hx => by
    have : x = 0 := by simpa [newS] using hx
    omega
  obtain ⟨n, hn⟩ : ∃ n, n = newS := ⟨_, rfl⟩
  rw [← hn] at hN hlen1 hlen2 hsm
  have HL := Lib.hid (And.intro hlen1 (And.intro hlen2 hsm))
  clear hn hlen1 hlen2 hsm
  go_enter Try.func77, Try.ntmps77
  go_wp2_with (go_at_call 19; refine (hN _).mono ?_; rintro r w1 ⟨A1, c1, E1, e1, rfl, o1, hb1⟩; refine Hid.out ?_)
  refine Lib.hid ?_
  obtain ⟨p, q, rfl, rfl, hpq, hp0, hq0, hp1, hq1, g1, g2⟩ := own_addr2 o1 (by rw [HL.out.1]; omega) (by rw [HL.out.2.1]; omega)
  rw [HL.out.1] at g1
  rw [HL.out.2.1] at g2
  rw [HL.out.1, HL.out.2.1]
  rw [World.size_alloc] at g1 g2 hp0 hq0
  have hs1 := hb1.size
  rw [World.size_alloc] at hs1
  have D0 : Dr w0 w B A m cap w1.heap.size p q c1 e1 pk (w1.alloc (.cells #[.slice (some ⟨p, 0, none⟩) 64 c1, .slice (some ⟨q, 0, none⟩) 64 e1] 24)) :=
    ⟨⟨pk, Nat.le_refl _, (hr.alloc _ |>.below hb1).alloc _⟩, (b0.below hb1).alloc _, B2.new w1 24 _ _, ⟨_, HL.out.2.2, g1.alloc _⟩, ⟨_, g2.alloc _⟩, below_grown (bel_new (bel_then (bel_new (Below.refl _ _) _) hb1) _) _, ⟨by omega, hr.bel.size⟩, ⟨hpq, by omega, by omega, by omega, by omega⟩⟩
  have hK := D0.call (by omega) 14 (by omega) (by omega)
  clear hN b0 hr g1 g2 o1
  go_wp2_with (go_at_call 78; refine hK.mono ?_; rintro r w2 ⟨x, x0, x1, rfl, D2, _⟩; refine Hid.out ?_)
  refine Lib.hid ?_
  obtain ⟨g, hg⟩ : ∃ g, g = w1.heap.size := ⟨_, rfl⟩
  rw [← hg] at D2 ⊢
  clear D0 hK hb1 hs1 hp0 hq0 hp1 hq1 hg hpq
  obtain ⟨kk, rfl⟩ : ∃ kk : Nat, x = (kk : Int) := ⟨x.toNat, by omega⟩
  have hkk : kk ≤ 13 := by omega
  clear x0 x1
  go_wp2_with fail
  go_loopw [4, 5] (fun i _ wr => ∃ k : Nat, k ≤ 13 ∧ i = .int .i64 k ∧ Dr w0 w B A m cap g p q c1 e1 (pk + 1 + 3 * (13 - k)) wr) (fun i _ _ => (intOf i).toNat)
  case atStart => exact ⟨kk, hkk, rfl, D2.mono (by omega)⟩
  case round =>
    clear D2 hkk
    obtain ⟨k, hk, rfl, hD⟩ := hrel
    by_cases h0 : k = 0
    · subst h0
      have hD := hD.mono (l2 := pk + 40) (by omega)
      have hK := hD.call (by omega) 12 (by omega) (by omega)
      go_upto_if 38 with (go_at_call 78; refine hK.mono ?_; rintro r w3 ⟨x, x0, x1, rfl, D3, _⟩)
      clear hK hD
      go_cut [6] (fun _ wx => Dr w0 w B A m cap g p q c1 e1 (pk + 42) wx)
      case first =>
        by_cases hx : x = 0
        · subst hx
          clear x0 x1
          go_wp2_with fail
          go_loopw [6] (fun i wr => ∃ k : Nat, 8 ≤ k ∧ k ≤ 64 ∧ i = .int .i64 k ∧ Dr w0 w B A m cap g p q c1 e1 (pk + 41) wr) (fun i _ => 64 - (intOf i).toNat)
          case atStart => exact ⟨8, by omega, by omega, rfl, D3⟩
          case round =>
            clear D3
            obtain ⟨k, h8, hk, rfl, hD⟩ := hrel
            by_cases hlt : k < 64
            · have hlt' : (k : Int) < 64 := by omega
              obtain ⟨z0, z1⟩ := hD.tell
              obtain ⟨v, _, _, cc, ff⟩ := hD.cell1 hlt
              have D1 := hD.put1 k (x := 1) (by omega)
              obtain ⟨z2, z3⟩ := D1.tell
              obtain ⟨u, cu, fu⟩ := D1.cell2 hlt
              have D2 := D1.put2 k (1 + (k : Int) % 3)
              have HD := Lib.hid D2
              clear D2 D1 hD
              go_wp2_with fail
              go_roundw
              case rel => exact ⟨k + 1, by omega, by omega, by go_num, HD.out⟩
              case measure => simp [intOf]; omega
            · have hke : k = 64 := by omega
              subst hke
              have hK := hD.call (by omega) 2 (by omega) (by omega)
              go_wp2_with (go_at_call 78; refine hK.mono ?_; rintro r w5 ⟨y, y0, y1, rfl, D5, _⟩; refine Hid.out ?_)
              refine Lib.hid ?_
              clear hK hD
              by_cases hy : y = 0
              · subst hy
                obtain ⟨z0, z1⟩ := D5.tell
                obtain ⟨v, _, _, cc, ff⟩ := D5.cell1 (k := 20) (by omega)
                have D6 := D5.put1 20 (x := 0) (by omega)
                obtain ⟨z2, z3⟩ := D6.tell
                obtain ⟨u, cu, fu⟩ := D6.cell2 (k := 20) (by omega)
                have HD := Lib.hid (D6.put2 20 0)
                clear D6 D5
                go_wp2_with fail
                go_meet
                exact HD.out
              · have hyb : (y == 0) = false := by simpa using hy
                clear hy
                go_wp2_with fail
                go_meet
                exact D5
        · have hxb : (x == 0) = false := by simpa using hx
          clear hx
          go_wp2_with fail
          go_meet
          exact D3.mono (by omega)
      case rest =>
        obtain ⟨w4, e4, D4⟩ : ∃ W, W = _ ∧ Dr w0 w B A m cap g p q c1 e1 (pk + 42) W := ⟨_, rfl, hcut⟩
        subst e4
        have hK := D4.call (by omega) 24 (by omega) (by omega)
        go_wp2_with (go_at_call 78; refine hK.mono ?_; rintro r w5 ⟨y, y0, y1, rfl, D5, _⟩; refine Hid.out ?_)
        refine Lib.hid ?_
        clear hK D4 D3 x0 x1
        have hle := Nat.le_refl w.heap.size
        by_cases h0 : y = 0
        · subst h0
          clear y0 y1
          obtain ⟨z0, z1⟩ := D5.tell
          have hC1 := D5.drew.call (by omega) 64 (by omega) (by omega)
          have ho := D5.out.cells
          go_wp2_with fail
          go_region_with (first
            | (go_at_call 78; (with_reducible refine hC1.mono ?_); rintro r w6 ⟨x, x0, x1, rfl, D6, _⟩; obtain ⟨i, rfl⟩ : ∃ i : Nat, x = (i : Int) := ⟨x.toNat, by omega⟩; have hi64 : i < 64 := (by omega); obtain ⟨z2, z3⟩ := D6.tell; have hC2 := D6.call (by omega) 4 (by omega) (by omega))
            | (go_at_call 78; refine hC2.mono ?_; rintro r w7 ⟨u, u0, u1, rfl, D7, _⟩; obtain ⟨z4, z5⟩ := D7.tell; obtain ⟨v, _, _, cc, ff⟩ := D7.cell1 hi64; have hw1 := IntWalk.i64_in (u - 1) (by omega); have D8 := D7.put1 i (x := u - 1) (by omega); obtain ⟨m0, m1⟩ := D8.tell; obtain ⟨⟨o0, o1⟩, f0, f1⟩ := D8.out.cells))
          all_goals go_wp2_with fail
          all_goals exact bodyPost_ret (v := .agg #[.slice (some ⟨p, 0, none⟩) 64 c1, .slice (some ⟨q, 0, none⟩) 64 e1]) (by simp [results, Try.f77, go_sem, o0, o1]) rfl (D8.fin (by omega) _ _)
        have h0b : (y == 0) = false := by simpa using h0
        by_cases h1 : y = 1
        · subst h1
          clear y0 y1 h0 h0b
          obtain ⟨z0, z1⟩ := D5.tell
          have hC1 := fun W (h : Dr w0 w B A m cap g p q c1 e1 (pk + 43) W) => h.call (by omega) 64 (by omega) (by omega)
          have hC2 := fun W (h : Dr w0 w B A m cap g p q c1 e1 (pk + 44) W) => h.call (by omega) 3 (by omega) (by omega)
          have hh := D5.drew
          have gl5 := D5.box.lt
          go_wp2_with fail
          first
            | go_region_with (first
              | (go_at_call 78; (with_reducible refine (hC1 _ ?_).mono ?_); (first | exact hh | exact hh.alloc _); rintro r w6 ⟨x, x0, x1, rfl, hh6, gg⟩; obtain ⟨i, rfl⟩ : ∃ i : Nat, x = (i : Int) := ⟨x.toNat, by omega⟩; have hi64 : i < 64 := (by omega); obtain ⟨z2, z3⟩ := hh6.tell; have gl6 := hh6.box.lt; (first | have hz := LLit.newD gg (by first | exact hh.lt | exact D5.lt) | skip))
              | (go_at_call 78; (with_reducible refine (hC2 _ ?_).mono ?_); (first | exact hh6 | exact hh6.alloc _); rintro r w7 ⟨u, u0, u1, rfl, hh7, gg7⟩; obtain ⟨j, rfl⟩ : ∃ j : Nat, u = (j : Int) := ⟨u.toNat, by omega⟩; have hj : j < 3 := (by omega); have ha1 := llit_at j hj; have ha3 := llit_new j hj; (first | (have hz := hz.grown gg7; have hc := hz.cell j hj) | (have hz := LLit.new gg7 hh6.lt; have hc := hz.cell j hj) | skip); obtain ⟨z4, z5⟩ := hh7.tell; have gl7 := hh7.box.lt; have ql7 := hh7.qlt; have ol7 := hh7.out.lt; obtain ⟨v, cc, ff⟩ := hh7.cell2 hi64; have D8 := hh7.put2 i (lv j); obtain ⟨m0, m1⟩ := D8.tell; obtain ⟨⟨o0, o1⟩, f0, f1⟩ := D8.out.cells))
            | fail "region"
          all_goals go_wp2_with fail
          all_goals first
            | exact bodyPost_ret (v := .agg #[.slice (some ⟨p, 0, none⟩) 64 c1, .slice (some ⟨q, 0, none⟩) 64 e1]) (by simp [results, Try.f77, go_sem, o0, o1]) rfl (D8.fin (by omega) _ _)
            | exact bodyPost_ret (v := .agg #[.slice (some ⟨p, 0, none⟩) 64 c1, .slice (some ⟨q, 0, none⟩) 64 e1]) (by simp [results, Try.f77, go_sem, o0, o1, ol7]) rfl (DrawnS.alloc (D8.fin (by omega) _ _) _)
        have h1b : (y == 1) = false := by simpa using h1
        have hcap := D5.caps
        by_cases h2 : y = 2
        · subst h2
          clear y0 y1 h0 h0b h1 h1b
          obtain ⟨⟨z0, z1⟩, k0, k1⟩ := D5.box.cells
          have hc1 : ¬ c1 = 1 := by omega
          have hc2 : ¬ c1 - 1 = 0 := by omega
          have hc3 : 1 ≤ c1 := by omega
          obtain ⟨a1, a2, a3, a4, a5⟩ := D5.pq
          have ht := D5.top
          obtain ⟨⟨o0, o1⟩, f0, f1⟩ := (D5.out.set (p := ⟨g, 0, none⟩) (by show w.heap.size ≠ g; omega) (.slice (some ⟨p, 1, none⟩) 63 (c1 - 1))).cells
          have HF := Lib.hid (fun a b => D5.fin2 (l2 := pk + 100) (v := .slice (some ⟨p, 1, none⟩) 63 (c1 - 1)) (c1 := c1 - 1) (by omega) a b)
          clear a1 a2 a3 a4 a5 ht D5 hcap
          go_wp2_with fail
          exact bodyPost_ret (v := .agg #[.slice (some ⟨p, 1, none⟩) 63 (c1 - 1), .slice (some ⟨q, 0, none⟩) 64 e1]) (by simp [results, Try.f77, go_sem, o0, o1]) rfl (HF.out _ _)
        have h2b : (y == 2) = false := by simpa using h2
        by_cases h3 : y = 3
        · subst h3
          clear y0 y1 h0 h0b h1 h1b h2 h2b
          obtain ⟨⟨z0, z1⟩, k0, k1⟩ := D5.box.cells
          obtain ⟨i0, hi, hz0, hz1, hz2⟩ := info_parts Try.info3
          obtain ⟨ys, ho⟩ := D5.row2
          have hyl : ys.length = 64 := by
            have := ho.1
            rw [intCells_len] at this
            omega
          have hoa := ho.alloc (.cells #[.int .i64 0] 3)
          have D6 := D5.alloc (.cells #[.int .i64 0] 3)
          have hs5 := D5.top
          have hsz := D5.grow.size
          go_wp2_with (at_builtin; refine wpList_append_own_at _ rfl _ _ 22 rfl (w.heap.size + 1) 3 i0 (.int .i64 0) 1 8 Try.underlying22 hi hz0 hz1 hz2 rfl (by decide) _ _ _ rfl hoa ⟨w5.heap.size, 0, none⟩ 1 1 [.int .i64 0] rfl rfl (cell_one_new _ _ _) (by intro u hu; simp at hu; subst hu; rfl) (by unfold maxLen; omega) (by omega) (by simp; have := D5.out.lt; omega) ?_; intro v' w7 hown' hgrow hnil hloc; refine Hid.out ?_)
          refine Lib.hid ?_
          obtain ⟨g', cap', rfl, hb1, hb2, hne, hfin⟩ := D6.fin3 (l2 := pk + 100) (by omega) hyl hown' hgrow hloc
          obtain ⟨⟨z0, z1⟩, k0, k1⟩ := hb1.cells
          obtain ⟨⟨o0, o1⟩, f0, f1⟩ := (hb2.set (p := ⟨g, 1, none⟩) (by show w.heap.size ≠ g; exact hne) (.slice (some ⟨g', 0, none⟩) 65 cap')).cells
          have HF := Lib.hid hfin
          clear hb1 hb2 hfin hown' hgrow hloc hnil D6 hoa ho hs5 hsz hne
          go_wp2_with fail
          exact bodyPost_ret (v := .agg #[.slice (some ⟨p, 0, none⟩) 64 c1, .slice (some ⟨g', 0, none⟩) 65 cap']) (by simp [results, Try.f77, go_sem, o0, o1]) rfl (HF.out _ _)
        · have h3b : (y == 3) = false := by simpa using h3
          obtain ⟨z0, z1⟩ := D5.tell
          obtain ⟨⟨o0, o1⟩, f0, f1⟩ := D5.out.cells
          clear h0 h1 h2 h3 y0 y1
          go_wp2_with fail
          exact bodyPost_ret (v := .agg #[.slice (some ⟨p, 0, none⟩) 64 c1, .slice (some ⟨q, 0, none⟩) 64 e1]) (by simp [results, Try.f77, go_sem, o0, o1]) rfl (D5.fin (by omega) _ _)
    · have hpos : (0 : Int) < (k : Int) := by omega
      have hK := hD.call (by omega) 12 (by omega) (by omega)
      go_upto_region 6 with (go_at_call 78; refine hK.mono ?_; rintro r w3 ⟨x, x0, x1, rfl, D3, _⟩; obtain ⟨z0, z1⟩ := D3.tell)
      obtain ⟨i, hi⟩ : ∃ i : Nat, 8 + x = (i : Int) := ⟨(8 + x).toNat, by omega⟩
      have hi64 : i < 64 := by omega
      have hi64' : (i : Int) < 64 := by omega
      rw [hi]
      clear hi x0 x1 hK hD
      obtain ⟨v, v0, v1, cc, ff⟩ := D3.cell1 hi64
      have hC := D3.drew.call (by omega) 3 (by omega) (by omega)
      go_cut [22] (fun _ wx => Dr w0 w B A m cap g p q c1 e1 (pk + 1 + 3 * (13 - k) + 2) wx)
      case first =>
        go_region_with (go_at_call 78; refine hC.mono ?_; rintro r w4 ⟨y, y0, y1, rfl, D4, _⟩; obtain ⟨z2, z3⟩ := D4.tell; obtain ⟨v', _, _, cc', ff'⟩ := D4.cell1 hi64; have hw1 := IntWalk.i64_in (1 + y) (by omega))
        all_goals go_wp2_with fail
        all_goals go_meet
        all_goals first | exact D4.put1 i ⟨by omega, by omega⟩ | exact (D4.put1 i ⟨by omega, by omega⟩).drew
      case rest =>
        clear hC D3 cc ff z0 z1 v0 v1
        obtain ⟨w5, e5, D5⟩ : ∃ W, W = _ ∧ Dr w0 w B A m cap g p q c1 e1 (pk + 1 + 3 * (13 - k) + 2) W := ⟨_, rfl, hcut⟩
        subst e5
        obtain ⟨z0, z1⟩ := D5.tell
        obtain ⟨v, v0, v1, cc, ff⟩ := D5.cell1 hi64
        have hC := D5.drew.call (by omega) 4 (by omega) (by omega)
        go_upto_region 7 with fail
        go_region_with (go_at_call 78; refine hC.mono ?_; rintro r w6 ⟨y, y0, y1, rfl, D6, _⟩; obtain ⟨z2, z3⟩ := D6.tell; obtain ⟨v', v2, v3, cc', ff'⟩ := D6.cell1 hi64; obtain ⟨u, cu, fu⟩ := D6.cell2 hi64; have hw1 := IntWalk.i64_in (v + y) (by omega); have hw2 := IntWalk.i64_in (v' + y) (by omega))
        all_goals
          clear hw1 hw2
          go_wp2_with fail
          go_roundw
          case rel => exact ⟨k - 1, by omega, by rw [show ((k - 1 : Nat) : Int) = (k : Int) - 1 by omega], by first | exact (D6.put2 i _).mono (by omega) | exact (D6.put2 i _).drew.mono (by omega)⟩
          case measure => simp [intOf]; omega
end Go.Proofs.Ytlmemjfinpccoaa
