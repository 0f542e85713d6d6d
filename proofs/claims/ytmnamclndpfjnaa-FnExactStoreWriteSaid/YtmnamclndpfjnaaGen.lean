/-
  Memory: rows of the call's own, boxes, and what stays.
-/
import Derived.Laws.Rows
import Derived.Lib.Hide
import Derived.BigQuiet
import Derived.Deep.QuietTactic
import Derived.Laws.OwnMore
import Derived.OwnWalk
import Derived.Below
import Derived.Deep.AppendLies
import Derived.Deep.Draws
import Derived.Deep.MidRow
import Derived.Deep.LoopGhost
import Derived.Deep.DeepCutAuto
import Derived.Deep.CutBlock
import Derived.Maps.AppendAt
import Derived.RegionTactic
import Derived.IntWalk
import Derived.WalkKit
import Derived.WalkSpells
import Derived.Deep.RegionWith
import Derived.Deep.RegionHeld3
import Derived.WalkSmall
namespace Go.Proofs.Ytmnamclndpfjnaa
open Go.RowKit
def Lies (w : World) (A : Option Addr) (xs : List Value) : Prop :=
  0 < xs.length → ∃ b off, A = some ⟨b, off, none⟩ ∧ b < w.heap.size ∧ ∀ j v, xs[j]? = some v → w.cell? ⟨b, off + j, none⟩ = some v
theorem Lies.nil (w : World) (A : Option Addr) : Lies w A [] := fun h => absurd h (by simp)
theorem Lies.below {w w' : World} {A : Option Addr} {xs : List Value} (h : Lies w A xs) (hb : Below w.heap.size w w') : Lies w' A xs := by
  intro h0
  obtain ⟨b, off, rfl, hlt, hc⟩ := h h0
  exact ⟨b, off, rfl, Nat.lt_of_lt_of_le hlt hb.size, fun j v hj => (hb.cell (p := ⟨b, off + j, none⟩) hlt).trans (hc j v hj)⟩
theorem Lies.alloc {w : World} {A : Option Addr} {xs : List Value} (h : Lies w A xs) (o : Obj) : Lies (w.alloc o) A xs := h.below ((Below.refl _ _).alloc (Nat.le_refl _) o)
theorem own_lies {w : World} {base : Nat} {t : TypeId} {sz n : Nat} {v : Value} {xs : List Value} (h : w.ownsRow base t sz v n xs) : ∃ A c, v = .slice A n c ∧ Lies w A xs := by
  have hl := h.1
  have hc := fun g hg => h.cells (g := g) hg
  have hlt := fun g hg => h.lt g hg
  rcases h.2 with ⟨rfl, rfl⟩ | ⟨g, cap, cur, rfl, _⟩
  · refine ⟨none, 0, rfl, fun h0 => ?_⟩
    rw [hl] at h0
    omega
  · refine ⟨some ⟨g, 0, none⟩, cap, rfl, fun _ => ⟨g, 0, rfl, (hlt g rfl).2, fun j v hj => ?_⟩⟩
    have := hc g rfl j v hj
    rwa [Addr.add_mid] at this
theorem own_bel {w w' : World} {base : Nat} {t : TypeId} {sz n : Nat} {v : Value} {xs : List Value} (h : w.ownsRow base t sz v n xs) (hb : Below w.heap.size w w') : w'.ownsRow base t sz v n xs := by
  refine h.kept (row := none) ⟨hb.os, hb.tape, hb.output, hb.size, fun k hk _ => hb.block k hk⟩ ?_
  cases v.ownBlock with
  | none => exact .inl rfl
  | some k => exact .inr (by simp)
theorem bel_then {a b c : World} (h : Below a.heap.size a b) (k : Below b.heap.size b c) : Below a.heap.size a c := h.trans (k.mono h.size)
theorem bel_new {a b : World} (h : Below a.heap.size a b) (o : Obj) : Below a.heap.size a (b.alloc o) := h.alloc h.size o
theorem own_base {w : World} {base base' : Nat} {t : TypeId} {sz n : Nat} {v : Value} {xs : List Value} (h : w.ownsRow base t sz v n xs) (hb : base' ≤ base) : w.ownsRow base' t sz v n xs := by
  refine ⟨h.1, ?_⟩
  rcases h.2 with h | ⟨g, cap, cur, rfl, hg, r⟩
  · exact .inl h
  · exact .inr ⟨g, cap, cur, rfl, Nat.le_trans hb hg, r⟩
theorem own_set {w : World} {base : Nat} {t : TypeId} {sz n : Nat} {v : Value} {xs : List Value} (h : w.ownsRow base t sz v n xs) {p : Addr} (hp : p.block < base) (u : Value) : (w.setCell p u).ownsRow base t sz v n xs :=
  h.kept (row := some p.block) ⟨rfl, rfl, rfl, by simp [World.setCell], fun k _ hk => Below.heap_setCell _ _ _ k (fun e => hk (by rw [e]))⟩ (.inr (fun e => by have := (h.lt _ e).1; omega))
theorem size_set (w : World) (p : Addr) (u : Value) : (w.setCell p u).heap.size = w.heap.size := by simp [World.setCell]

theorem bcell {W w1 : World} (hb : Below W.heap.size W w1) : (∀ b o, b < W.heap.size → w1.cell? ⟨b, o, none⟩ = W.cell? ⟨b, o, none⟩) ∧ (∀ b o, b < W.heap.size → w1.frozen? ⟨b, o, none⟩ = W.frozen? ⟨b, o, none⟩) :=
  ⟨fun b o h => hb.cell (p := ⟨b, o, none⟩) h, fun b o h => hb.frozen (p := ⟨b, o, none⟩) h⟩

theorem grown_trans {a b c : World} {r : Option Nat} (h : a.grownBy b r) (k : b.grownBy c r) : a.grownBy c r :=
  ⟨k.os.trans h.os, k.tape.trans h.tape, k.output.trans h.output, Nat.le_trans h.size k.size, fun i hi hne => (k.block i (Nat.lt_of_lt_of_le hi h.size) hne).trans (h.block i hi hne)⟩
theorem below_grown {a b : World} (h : Below a.heap.size a b) (r : Option Nat) : a.grownBy b r := ⟨h.os, h.tape, h.output, h.size, fun k hk _ => h.block k hk⟩
theorem own_addr {w : World} {base : Nat} {t : TypeId} {sz n m c : Nat} {A : Option Addr} {xs : List Value} (h : w.ownsRow base t sz (.slice A m c) n xs) (hn : 0 < n) : ∃ g, A = some ⟨g, 0, none⟩ := by
  rcases h.2 with ⟨_, h0⟩ | ⟨g, cap, _, e, _⟩
  · omega
  · cases e
    exact ⟨g, rfl⟩

structure Only (lo hi : Nat) (a w : World) : Prop where
  os : w.os = a.os
  tape : w.tape = a.tape
  output : w.output = a.output
  size : a.heap.size ≤ w.heap.size
  block : ∀ k, k < a.heap.size → ¬ (lo ≤ k ∧ k < hi) → w.heap[k]? = a.heap[k]?
theorem Only.of_below {lo hi : Nat} {a w : World} (h : Below a.heap.size a w) : Only lo hi a w := ⟨h.os, h.tape, h.output, h.size, fun k hk _ => h.block k hk⟩
theorem Only.of_grown {lo hi : Nat} {a w : World} {r : Option Nat} (h : a.grownBy w r) (hr : ∀ k, r = some k → lo ≤ k ∧ k < hi) : Only lo hi a w :=
  ⟨h.os, h.tape, h.output, h.size, fun k hk hn => h.block k hk (fun e => hn (hr k e.symm))⟩
theorem Only.trans {lo hi : Nat} {a b c : World} (h : Only lo hi a b) (k : Only lo hi b c) : Only lo hi a c :=
  ⟨k.os.trans h.os, k.tape.trans h.tape, k.output.trans h.output, Nat.le_trans h.size k.size, fun i hi hn => (k.block i (Nat.lt_of_lt_of_le hi h.size) hn).trans (h.block i hi hn)⟩
theorem Only.below {lo hi B : Nat} {a w : World} (h : Only lo hi a w) (hB : B ≤ lo) (hs : B ≤ a.heap.size) : Below B a w :=
  ⟨h.os, h.tape, h.output, h.size, fun k hk => h.block k (Nat.lt_of_lt_of_le hk hs) (fun e => by omega)⟩

theorem own_only {w w' : World} {lo hi base : Nat} {t : TypeId} {sz n : Nat} {v : Value} {xs : List Value} (h : w.ownsRow base t sz v n xs) (hg : Only lo hi w w') (hne : ∀ k, v.ownBlock = some k → ¬ (lo ≤ k ∧ k < hi)) : w'.ownsRow base t sz v n xs := by
  refine ⟨h.1, ?_⟩
  rcases h.2 with hn | ⟨g, cap, cur, rfl, hb, hgg, rest⟩
  · exact .inl hn
  · refine .inr ⟨g, cap, cur, rfl, hb, ?_, rest⟩
    rw [hg.block g (Array.getElem?_eq_some_iff.1 hgg).1 (hne g rfl)]
    exact hgg
theorem below_drewN {B : Nat} {a w : World} (h : Below B a w) (n : Nat) : Below B a (w.drewN n) := h.trans ⟨rfl, rfl, rfl, Nat.le_refl _, fun _ _ => rfl⟩
def intCells (xs : List Int) : List Value := xs.map (Value.int .i64)
theorem intCells_len (xs : List Int) : (intCells xs).length = xs.length := by simp [intCells]
theorem intCells_app (a b : List Int) : intCells (a ++ b) = intCells a ++ intCells b := by simp [intCells]
theorem intCells_at (xs : List Int) (k : Nat) (h : k < xs.length) : (intCells xs)[k]? = some (.int .i64 xs[k]) := by simp [intCells, h]
theorem intCells_one (xs : List Int) : ∀ u ∈ intCells xs, u.oneCell' = true := fun u hu => by
  obtain ⟨x, _, rfl⟩ := List.mem_map.1 hu
  rfl
theorem intCells_set (xs : List Int) (k : Nat) (x : Int) : (intCells xs).set k (.int .i64 x) = intCells (xs.set k x) := by simp [intCells, List.map_set]
theorem Lies.int {w : World} {A : Option Addr} {xs : List Int} (h : Lies w A (intCells xs)) (k : Nat) (hk : k < xs.length) : ∃ b off, A = some ⟨b, off, none⟩ ∧ b < w.heap.size ∧ w.cell? ⟨b, off + k, none⟩ = some (.int .i64 xs[k]) := by
  obtain ⟨b, off, e, hlt, hc⟩ := h (by rw [intCells_len]; omega)
  exact ⟨b, off, e, hlt, hc k _ (intCells_at xs k hk)⟩
/-- Block g is a box of two cells. -/
def B2 (W : World) (g : Nat) (t : TypeId) (x y : Value) : Prop := W.heap[g]? = some (.cells #[x, y] t (0, 0))
theorem B2.new (w : World) (t : TypeId) (x y : Value) : B2 (w.alloc (.cells #[x, y] t)) w.heap.size t x y := heap_alloc_new w _
theorem B2.lt {W : World} {g : Nat} {t : TypeId} {x y : Value} (h : B2 W g t x y) : g < W.heap.size := (Array.getElem?_eq_some_iff.1 h).1
theorem B2.below {W W' : World} {g : Nat} {t : TypeId} {x y : Value} (h : B2 W g t x y) (hb : Below W.heap.size W W') : B2 W' g t x y := (hb.block g h.lt).trans h
theorem B2.alloc {W : World} {g : Nat} {t : TypeId} {x y : Value} (h : B2 W g t x y) (o : Obj) : B2 (W.alloc o) g t x y := (Below.heap_alloc W o g h.lt).trans h
theorem B2.drew {W : World} {g : Nat} {t : TypeId} {x y : Value} (h : B2 W g t x y) : B2 W.drew g t x y := h
theorem B2.set {W : World} {g : Nat} {t : TypeId} {x y : Value} (h : B2 W g t x y) {p : Addr} (hp : g ≠ p.block) (u : Value) : B2 (W.setCell p u) g t x y := (Below.heap_setCell W p u g hp).trans h
theorem B2.grown {W W' : World} {g : Nat} {t : TypeId} {x y : Value} (h : B2 W g t x y) {r : Option Nat} (hg : W.grownBy W' r) (hr : some g ≠ r) : B2 W' g t x y := (hg.block g h.lt hr).trans h
theorem B2.only {W W' : World} {lo hi g : Nat} {t : TypeId} {x y : Value} (h : B2 W g t x y) (hg : Only lo hi W W') (hn : ¬ (lo ≤ g ∧ g < hi)) : B2 W' g t x y := (hg.block g h.lt hn).trans h
theorem B2.cells {W : World} {g : Nat} {t : TypeId} {x y : Value} (h : B2 W g t x y) :
    (W.cell? ⟨g, 0, none⟩ = some x ∧ W.cell? ⟨g, 1, none⟩ = some y) ∧ (W.frozen? ⟨g, 0, none⟩ = false ∧ W.frozen? ⟨g, 1, none⟩ = false) := by
  unfold B2 at h
  simp [World.cell?, World.frozen?, h]
theorem made_ints (n : Nat) : (madeCells (Value.cells (.int .i64 0)) (n * 1)).toList = intCells (List.replicate n 0) := by
  apply List.ext_getElem
  · simp [madeCells, intCells]
  · intro i h1 h2
    simp [madeCells, Value.cells, Nat.mod_one, intCells]
theorem own_apart {w w' : World} {b1 b2 : Nat} {t1 t2 : TypeId} {s1 s2 n m : Nat} {v u : Value} {xs ys : List Value} (h : w.ownsRow b1 t1 s1 v n xs) (g : w.ownsRow b2 t2 s2 u m ys) (hne : ∀ k, v.ownBlock = some k → k < b2) (hg : w.grownBy w' u.ownBlock) : w'.ownsRow b1 t1 s1 v n xs := by
  refine h.kept hg ?_
  cases e : v.ownBlock with
  | none => exact .inl rfl
  | some k =>
    refine .inr fun e2 => ?_
    have a := hne k e
    have b := (g.lt k e2.symm).1
    omega
theorem row_lies {w : World} {base n m c : Nat} {t : TypeId} {sz : Nat} {A : Option Addr} {xs : List Value} (h : w.ownsRow base t sz (.slice A m c) n xs) : Lies w A xs := by
  obtain ⟨A', c', e, hl⟩ := own_lies h
  cases e
  exact hl
end Go.Proofs.Ytmnamclndpfjnaa
