/-
  Memory: rows of the call's own, boxes, and what stays.
  Numbers in memory: their weight, a copy, whether two rows are equal, the marks of a law.
  Space as lists of numbers: whether it is valid, what is free, one reference more, one less, and what a list of references comes to.
  Space in memory: its weight, a copy, whether two are equal, the marks of a law.
  Space that came in.
  How space, and a row of numbers, that a law is called with are opened.
  Stores as lists: when one is valid, and what each function makes of one. Pure.
  The small functions: whether a number lies between two, whether a row is one for blocks, whether nothing is used of it, whether it may be used so.
  Pointers: five numbers each; a hole, a valid one; a law's copy of one.
  Rows of pointers: a law's copy, its weight, whether two are equal, the marks of a law.
-/
import Derived.Laws.Rows
import Derived.Lib.Hide
import Derived.BigQuiet
import Derived.Deep.QuietTactic
import Derived.Laws.OwnMore
import Derived.OwnWalk
import Derived.Below
import Derived.Deep.AppendLies
import Derived.Deep.Draws
import Derived.Deep.MidRow
import Derived.Deep.LoopGhost
import Derived.Deep.DeepCutAuto
import Derived.Deep.CutBlock
import Derived.Maps.AppendAt
import Derived.RegionTactic
import Derived.IntWalk
import Derived.WalkKit
import Derived.WalkSpells
import Derived.Deep.RegionWith
import Derived.Deep.RegionHeld3
import Derived.WalkSmall
import Derived.Test.YtjmfefaoenmppaaGreatDoorProg
import Derived.Test.YtjmfefaoenmppaaGreatDoorRows
import Derived.Test.YtjmfefaoenmppaaGreatDoorChecked
import Derived.ChangeOld
import Derived.ChangeSlices
import Derived.Deep.Fields
import Derived.Deep.Slices
import Derived.SliceStrings
import Derived.Lib.SmallJoins
import Derived.Laws.StructEq
import Derived.ProofKit
import Derived.OpenShut
import Derived.Laws.ResultCell
set_option linter.unusedVariables false

namespace Go.Proofs.YtjmfefaoenmppaaGreatDoor
open Go.RowKit
def Lies (w : World) (A : Option Addr) (xs : List Value) : Prop :=
  0 < xs.length → ∃ b off, A = some ⟨b, off, none⟩ ∧ b < w.heap.size ∧ ∀ j v, xs[j]? = some v → w.cell? ⟨b, off + j, none⟩ = some v
theorem Lies.nil (w : World) (A : Option Addr) : Lies w A [] := fun h => absurd h (by simp)
theorem Lies.below {w w' : World} {A : Option Addr} {xs : List Value} (h : Lies w A xs) (hb : Below w.heap.size w w') : Lies w' A xs := by
  intro h0
  obtain ⟨b, off, rfl, hlt, hc⟩ := h h0
  exact ⟨b, off, rfl, Nat.lt_of_lt_of_le hlt hb.size, fun j v hj => (hb.cell (p := ⟨b, off + j, none⟩) hlt).trans (hc j v hj)⟩
theorem Lies.alloc {w : World} {A : Option Addr} {xs : List Value} (h : Lies w A xs) (o : Obj) : Lies (w.alloc o) A xs := h.below ((Below.refl _ _).alloc (Nat.le_refl _) o)
theorem own_lies {w : World} {base : Nat} {t : TypeId} {sz n : Nat} {v : Value} {xs : List Value} (h : w.ownsRow base t sz v n xs) : ∃ A c, v = .slice A n c ∧ Lies w A xs := by
  have hl := h.1
  have hc := fun g hg => h.cells (g := g) hg
  have hlt := fun g hg => h.lt g hg
  rcases h.2 with ⟨rfl, rfl⟩ | ⟨g, cap, cur, rfl, _⟩
  · refine ⟨none, 0, rfl, fun h0 => ?_⟩
    rw [hl] at h0
    omega
  · refine ⟨some ⟨g, 0, none⟩, cap, rfl, fun _ => ⟨g, 0, rfl, (hlt g rfl).2, fun j v hj => ?_⟩⟩
    have := hc g rfl j v hj
    rwa [Addr.add_mid] at this
theorem own_bel {w w' : World} {base : Nat} {t : TypeId} {sz n : Nat} {v : Value} {xs : List Value} (h : w.ownsRow base t sz v n xs) (hb : Below w.heap.size w w') : w'.ownsRow base t sz v n xs := by
  refine h.kept (row := none) ⟨hb.os, hb.tape, hb.output, hb.size, fun k hk _ => hb.block k hk⟩ ?_
  cases v.ownBlock with
  | none => exact .inl rfl
  | some k => exact .inr (by simp)
theorem bel_then {a b c : World} (h : Below a.heap.size a b) (k : Below b.heap.size b c) : Below a.heap.size a c := h.trans (k.mono h.size)
theorem bel_new {a b : World} (h : Below a.heap.size a b) (o : Obj) : Below a.heap.size a (b.alloc o) := h.alloc h.size o
theorem own_base {w : World} {base base' : Nat} {t : TypeId} {sz n : Nat} {v : Value} {xs : List Value} (h : w.ownsRow base t sz v n xs) (hb : base' ≤ base) : w.ownsRow base' t sz v n xs := by
  refine ⟨h.1, ?_⟩
  rcases h.2 with h | ⟨g, cap, cur, rfl, hg, r⟩
  · exact .inl h
  · exact .inr ⟨g, cap, cur, rfl, Nat.le_trans hb hg, r⟩
theorem own_set {w : World} {base : Nat} {t : TypeId} {sz n : Nat} {v : Value} {xs : List Value} (h : w.ownsRow base t sz v n xs) {p : Addr} (hp : p.block < base) (u : Value) : (w.setCell p u).ownsRow base t sz v n xs :=
  h.kept (row := some p.block) ⟨rfl, rfl, rfl, by simp [World.setCell], fun k _ hk => Below.heap_setCell _ _ _ k (fun e => hk (by rw [e]))⟩ (.inr (fun e => by have := (h.lt _ e).1; omega))
theorem size_set (w : World) (p : Addr) (u : Value) : (w.setCell p u).heap.size = w.heap.size := by simp [World.setCell]

theorem bcell {W w1 : World} (hb : Below W.heap.size W w1) : (∀ b o, b < W.heap.size → w1.cell? ⟨b, o, none⟩ = W.cell? ⟨b, o, none⟩) ∧ (∀ b o, b < W.heap.size → w1.frozen? ⟨b, o, none⟩ = W.frozen? ⟨b, o, none⟩) :=
  ⟨fun b o h => hb.cell (p := ⟨b, o, none⟩) h, fun b o h => hb.frozen (p := ⟨b, o, none⟩) h⟩

theorem grown_trans {a b c : World} {r : Option Nat} (h : a.grownBy b r) (k : b.grownBy c r) : a.grownBy c r :=
  ⟨k.os.trans h.os, k.tape.trans h.tape, k.output.trans h.output, Nat.le_trans h.size k.size, fun i hi hne => (k.block i (Nat.lt_of_lt_of_le hi h.size) hne).trans (h.block i hi hne)⟩
theorem below_grown {a b : World} (h : Below a.heap.size a b) (r : Option Nat) : a.grownBy b r := ⟨h.os, h.tape, h.output, h.size, fun k hk _ => h.block k hk⟩
theorem own_addr {w : World} {base : Nat} {t : TypeId} {sz n m c : Nat} {A : Option Addr} {xs : List Value} (h : w.ownsRow base t sz (.slice A m c) n xs) (hn : 0 < n) : ∃ g, A = some ⟨g, 0, none⟩ := by
  rcases h.2 with ⟨_, h0⟩ | ⟨g, cap, _, e, _⟩
  · omega
  · cases e
    exact ⟨g, rfl⟩

structure Only (lo hi : Nat) (a w : World) : Prop where
  os : w.os = a.os
  tape : w.tape = a.tape
  output : w.output = a.output
  size : a.heap.size ≤ w.heap.size
  block : ∀ k, k < a.heap.size → ¬ (lo ≤ k ∧ k < hi) → w.heap[k]? = a.heap[k]?
theorem Only.of_below {lo hi : Nat} {a w : World} (h : Below a.heap.size a w) : Only lo hi a w := ⟨h.os, h.tape, h.output, h.size, fun k hk _ => h.block k hk⟩
theorem Only.of_grown {lo hi : Nat} {a w : World} {r : Option Nat} (h : a.grownBy w r) (hr : ∀ k, r = some k → lo ≤ k ∧ k < hi) : Only lo hi a w :=
  ⟨h.os, h.tape, h.output, h.size, fun k hk hn => h.block k hk (fun e => hn (hr k e.symm))⟩
theorem Only.trans {lo hi : Nat} {a b c : World} (h : Only lo hi a b) (k : Only lo hi b c) : Only lo hi a c :=
  ⟨k.os.trans h.os, k.tape.trans h.tape, k.output.trans h.output, Nat.le_trans h.size k.size, fun i hi hn => (k.block i (Nat.lt_of_lt_of_le hi h.size) hn).trans (h.block i hi hn)⟩
theorem Only.below {lo hi B : Nat} {a w : World} (h : Only lo hi a w) (hB : B ≤ lo) (hs : B ≤ a.heap.size) : Below B a w :=
  ⟨h.os, h.tape, h.output, h.size, fun k hk => h.block k (Nat.lt_of_lt_of_le hk hs) (fun e => by omega)⟩

theorem own_only {w w' : World} {lo hi base : Nat} {t : TypeId} {sz n : Nat} {v : Value} {xs : List Value} (h : w.ownsRow base t sz v n xs) (hg : Only lo hi w w') (hne : ∀ k, v.ownBlock = some k → ¬ (lo ≤ k ∧ k < hi)) : w'.ownsRow base t sz v n xs := by
  refine ⟨h.1, ?_⟩
  rcases h.2 with hn | ⟨g, cap, cur, rfl, hb, hgg, rest⟩
  · exact .inl hn
  · refine .inr ⟨g, cap, cur, rfl, hb, ?_, rest⟩
    rw [hg.block g (Array.getElem?_eq_some_iff.1 hgg).1 (hne g rfl)]
    exact hgg
theorem below_drewN {B : Nat} {a w : World} (h : Below B a w) (n : Nat) : Below B a (w.drewN n) := h.trans ⟨rfl, rfl, rfl, Nat.le_refl _, fun _ _ => rfl⟩
def intCells (xs : List Int) : List Value := xs.map (Value.int .i64)
theorem intCells_len (xs : List Int) : (intCells xs).length = xs.length := by simp [intCells]
theorem intCells_app (a b : List Int) : intCells (a ++ b) = intCells a ++ intCells b := by simp [intCells]
theorem intCells_at (xs : List Int) (k : Nat) (h : k < xs.length) : (intCells xs)[k]? = some (.int .i64 xs[k]) := by simp [intCells, h]
theorem intCells_one (xs : List Int) : ∀ u ∈ intCells xs, u.oneCell' = true := fun u hu => by
  obtain ⟨x, _, rfl⟩ := List.mem_map.1 hu
  rfl
theorem intCells_set (xs : List Int) (k : Nat) (x : Int) : (intCells xs).set k (.int .i64 x) = intCells (xs.set k x) := by simp [intCells, List.map_set]
theorem Lies.int {w : World} {A : Option Addr} {xs : List Int} (h : Lies w A (intCells xs)) (k : Nat) (hk : k < xs.length) : ∃ b off, A = some ⟨b, off, none⟩ ∧ b < w.heap.size ∧ w.cell? ⟨b, off + k, none⟩ = some (.int .i64 xs[k]) := by
  obtain ⟨b, off, e, hlt, hc⟩ := h (by rw [intCells_len]; omega)
  exact ⟨b, off, e, hlt, hc k _ (intCells_at xs k hk)⟩
/-- Block g is a box of two cells. -/
def B2 (W : World) (g : Nat) (t : TypeId) (x y : Value) : Prop := W.heap[g]? = some (.cells #[x, y] t (0, 0))
theorem B2.new (w : World) (t : TypeId) (x y : Value) : B2 (w.alloc (.cells #[x, y] t)) w.heap.size t x y := heap_alloc_new w _
theorem B2.lt {W : World} {g : Nat} {t : TypeId} {x y : Value} (h : B2 W g t x y) : g < W.heap.size := (Array.getElem?_eq_some_iff.1 h).1
theorem B2.below {W W' : World} {g : Nat} {t : TypeId} {x y : Value} (h : B2 W g t x y) (hb : Below W.heap.size W W') : B2 W' g t x y := (hb.block g h.lt).trans h
theorem B2.alloc {W : World} {g : Nat} {t : TypeId} {x y : Value} (h : B2 W g t x y) (o : Obj) : B2 (W.alloc o) g t x y := (Below.heap_alloc W o g h.lt).trans h
theorem B2.drew {W : World} {g : Nat} {t : TypeId} {x y : Value} (h : B2 W g t x y) : B2 W.drew g t x y := h
theorem B2.set {W : World} {g : Nat} {t : TypeId} {x y : Value} (h : B2 W g t x y) {p : Addr} (hp : g ≠ p.block) (u : Value) : B2 (W.setCell p u) g t x y := (Below.heap_setCell W p u g hp).trans h
theorem B2.grown {W W' : World} {g : Nat} {t : TypeId} {x y : Value} (h : B2 W g t x y) {r : Option Nat} (hg : W.grownBy W' r) (hr : some g ≠ r) : B2 W' g t x y := (hg.block g h.lt hr).trans h
theorem B2.only {W W' : World} {lo hi g : Nat} {t : TypeId} {x y : Value} (h : B2 W g t x y) (hg : Only lo hi W W') (hn : ¬ (lo ≤ g ∧ g < hi)) : B2 W' g t x y := (hg.block g h.lt hn).trans h
theorem B2.cells {W : World} {g : Nat} {t : TypeId} {x y : Value} (h : B2 W g t x y) :
    (W.cell? ⟨g, 0, none⟩ = some x ∧ W.cell? ⟨g, 1, none⟩ = some y) ∧ (W.frozen? ⟨g, 0, none⟩ = false ∧ W.frozen? ⟨g, 1, none⟩ = false) := by
  unfold B2 at h
  simp [World.cell?, World.frozen?, h]
theorem made_ints (n : Nat) : (madeCells (Value.cells (.int .i64 0)) (n * 1)).toList = intCells (List.replicate n 0) := by
  apply List.ext_getElem
  · simp [madeCells, intCells]
  · intro i h1 h2
    simp [madeCells, Value.cells, Nat.mod_one, intCells]
theorem own_apart {w w' : World} {b1 b2 : Nat} {t1 t2 : TypeId} {s1 s2 n m : Nat} {v u : Value} {xs ys : List Value} (h : w.ownsRow b1 t1 s1 v n xs) (g : w.ownsRow b2 t2 s2 u m ys) (hne : ∀ k, v.ownBlock = some k → k < b2) (hg : w.grownBy w' u.ownBlock) : w'.ownsRow b1 t1 s1 v n xs := by
  refine h.kept hg ?_
  cases e : v.ownBlock with
  | none => exact .inl rfl
  | some k =>
    refine .inr fun e2 => ?_
    have a := hne k e
    have b := (g.lt k e2.symm).1
    omega
theorem row_lies {w : World} {base n m c : Nat} {t : TypeId} {sz : Nat} {A : Option Addr} {xs : List Value} (h : w.ownsRow base t sz (.slice A m c) n xs) : Lies w A xs := by
  obtain ⟨A', c', e, hl⟩ := own_lies h
  cases e
  exact hl
end Go.Proofs.YtjmfefaoenmppaaGreatDoor

namespace Go.Proofs.YtjmfefaoenmppaaGreatDoor
open Go.RowKit

theorem Tryz.info3 : (Tryz.prog.info? 3).map (fun i => (i.zero, i.size, i.bytes)) = some (some (.int .i64 0), 1, 8) := by kernel_rfl
def SzPost (n : Nat) (L : Int) (w : World) (e : Ending) (w' : World) : Prop := ∃ z : Int, e = .returned (.int .i64 z) ∧ Below w.heap.size w w' ∧ (0 ≤ z → (n : Int) ≤ L - z)

set_option maxHeartbeats 1000000 in
theorem sz_ints (A : Option Addr) (cap : Nat) (n : Nat) (L : Int) (w : World) (hL0 : 0 ≤ L) (hL : L ≤ 1048576) (hn : n ≤ maxLen) :
    Calls Tryz.prog 69 #[.slice A n cap, .int .i64 L] w (SzPost n L w) := by
  unfold maxLen at hn
  by_cases h0 : L < (n : Int)
  · have h0' : L - (n : Int) < 0 := by omega
    go_enter Tryz.func69, Tryz.ntmps69
    go_wp2
    go_ret
    exact ⟨_, rfl, Below.refl _ _, by intro h; omega⟩
  · have h0' : ¬ L - (n : Int) < 0 := by omega
    go_enter Tryz.func69, Tryz.ntmps69
    go_wp2
    go_ret
    exact ⟨_, rfl, Below.refl _ _, by intro h; omega⟩

theorem set_next (xs : List Int) (k m : Nat) (h : k < xs.length) (hm : xs.length - k = m + 1) :
    (xs.take k ++ List.replicate (xs.length - k) (0 : Int)).set k xs[k] = xs.take (k + 1) ++ List.replicate (xs.length - (k + 1)) 0 := by
  have hl : (xs.take k).length = k := by simp; omega
  rw [hm, show xs.length - (k + 1) = m by omega, List.set_append_right _ _ (by omega), hl, Nat.sub_self, List.replicate_succ, List.set_cons_zero,
    List.take_succ_eq_append_getElem h, List.append_assoc]
  rfl
def ToPost (xs : List Int) (w : World) (e : Ending) (w' : World) : Prop :=
  ∃ g, e = .returned (.slice (some ⟨g, 0, none⟩) xs.length xs.length) ∧ w'.ownsRow w.heap.size 3 1 (.slice (some ⟨g, 0, none⟩) xs.length xs.length) xs.length (intCells xs) ∧ Below w.heap.size w w'

set_option maxHeartbeats 1000000 in
theorem to_ints (A : Option Addr) (cap : Nat) (xs : List Int) (w : World) (hn : xs.length ≤ 1048576) (hA : Lies w A (intCells xs)) :
    Calls Tryz.prog 75 #[.slice A xs.length cap] w (ToPost xs w) := by
  obtain ⟨i0, hi, hz0, hz1, hz2⟩ := info_parts Tryz.info3
  go_enter Tryz.func75, Tryz.ntmps75
  go_wp2_with (refine wpList_make_full _ rfl _ _ 23 rfl w.heap.size 3 i0 (.int .i64 0) 1 Tryz.underlying23 hi hz0 hz1 _ _ _ _ xs.length rfl rfl rfl rfl (by rw [hz2]; omega) (by unfold maxLen; omega) (Nat.le_refl _) ?_; intro w1 hown hgrow; rw [made_ints] at hown)
  go_loopw [4] (fun i wr => ∃ k : Nat, k ≤ xs.length ∧ i = .int .i64 k ∧ wr.ownsRow w.heap.size 3 1 (.slice (some ⟨w.heap.size, 0, none⟩) xs.length xs.length) xs.length (intCells (xs.take k ++ List.replicate (xs.length - k) 0)) ∧ Below w.heap.size w wr) (fun i _ => xs.length - (intOf i).toNat)
  case atStart => exact ⟨0, Nat.zero_le _, rfl, by simpa using hown, (Below.refl _ _).grown hgrow (Nat.le_refl _) (fun k e => by cases e)⟩
  case round =>
    obtain ⟨k, hk, rfl, ho, hb⟩ := hrel
    clear hown hgrow
    by_cases hlt : k < xs.length
    · obtain ⟨b, off, rfl, hlb, hck⟩ := (hA.below hb).int k hlt
      have hlen := ho.1
      have hcg : wr.cell? ⟨w.heap.size, k, none⟩ = some ((intCells (xs.take k ++ List.replicate (xs.length - k) 0))[k]'(by omega)) := by
        rw [ho.cellAt k (by omega)]
        exact List.getElem?_eq_getElem _
      have hfg := ho.frozenAt k
      obtain ⟨m, hm⟩ : ∃ m, xs.length - k = m + 1 := ⟨xs.length - k - 1, by omega⟩
      have hst := (ho.stored k (.int .i64 xs[k])).1
      have hsg := (ho.stored k (.int .i64 xs[k])).2
      rw [intCells_set, set_next xs k m hlt hm] at hst
      have B1 : Below w.heap.size w (wr.setCell ⟨w.heap.size, k, none⟩ (.int .i64 xs[k])) := hb.setCell (p := ⟨w.heap.size, k, none⟩) (Nat.le_refl _) _
      obtain ⟨y, hy⟩ : ∃ y, y = (intCells (xs.take k ++ List.replicate (xs.length - k) 0))[k]'(by omega) := ⟨_, rfl⟩
      rw [← hy] at hcg
      obtain ⟨x, hx⟩ : ∃ x, x = xs[k] := ⟨_, rfl⟩
      rw [← hx] at hck hst hsg B1
      clear hlen hm hy hx ho hb
      go_wp2
      go_roundw
      case rel => exact ⟨k + 1, by omega, by go_num, hst, B1⟩
      case measure => simp [intOf]; omega
    · have hke : k = xs.length := by omega
      subst hke
      rw [List.take_length, Nat.sub_self] at ho
      simp only [List.replicate_zero, List.append_nil] at ho
      go_wp2
      go_ret
      exact ⟨_, rfl, ho, hb⟩

set_option maxHeartbeats 1000000 in
theorem eq_ints (A B : Option Addr) (ca cb : Nat) (xs : List Int) (w : World) (hn : xs.length ≤ 1048576) (hA : Lies w A (intCells xs)) (hB : Lies w B (intCells xs)) :
    Calls Tryz.prog 34 #[.slice A xs.length ca, .slice B xs.length cb] w fun e w' => e = .returned (.bool true) ∧ Below w.heap.size w w' := by
  have hq0 : ((xs.length : Int) != (xs.length : Int)) = false := by simp
  go_enter Tryz.func34, Tryz.ntmps34
  go_wp2
  go_loopw [5] (fun i wr => ∃ k : Nat, k ≤ xs.length ∧ i = .int .i64 k ∧ Below w.heap.size w wr) (fun i _ => xs.length - (intOf i).toNat)
  case atStart => exact ⟨0, Nat.zero_le _, rfl, Below.refl _ _⟩
  case round =>
    obtain ⟨k, hk, rfl, hb⟩ := hrel
    by_cases hlt : k < xs.length
    · obtain ⟨b, off, rfl, hlb, hck⟩ := (hA.below hb).int k hlt
      obtain ⟨b2, off2, rfl, hlb2, hck2⟩ := (hB.below hb).int k hlt
      obtain ⟨x, hx⟩ : ∃ x, x = xs[k] := ⟨_, rfl⟩
      rw [← hx] at hck hck2
      have hq : (x != x) = false := by simp
      have hlt' : (k : Int) < (xs.length : Int) := by omega
      clear hx
      go_wp2_with fail
      go_quiet (fail)
      go_wp2
      go_roundw
      case rel => exact ⟨k + 1, by omega, by go_num, below_drewN hb _⟩
      case measure => simp [intOf]; omega
    · have hke : k = xs.length := by omega
      subst hke
      go_wp2
      go_ret
      exact ⟨rfl, hb⟩

/-- The marks of a law. -/
def marks (a : Int) (n : Nat) : List Int := (List.range n).map fun (i : Nat) => a + (i : Int)
theorem marks_len (a : Int) (n : Nat) : (marks a n).length = n := by simp [marks]
theorem marks_next (a : Int) (n : Nat) : marks a (n + 1) = marks a n ++ [a + (n : Int)] := by simp [marks, List.range_succ]
theorem marks_at (a : Int) (n k : Nat) (h : k < n) : (intCells (marks a n))[k]? = some (.int .i64 (a + (k : Int))) := by
  simp [intCells, marks, h]
theorem set_mark (a : Int) (xs : List Int) (k : Nat) (h : k < xs.length) : (marks a k ++ xs.drop k).set k (a + (k : Int)) = marks a (k + 1) ++ xs.drop (k + 1) := by
  rw [marks_next, List.drop_eq_getElem_cons h, List.set_append_right _ _ (by rw [marks_len]; omega), marks_len, Nat.sub_self, List.set_cons_zero, List.append_assoc]
  rfl
def MarkPost (base : Nat) (v : Value) (a : Int) (n : Nat) (w : World) (e : Ending) (w' : World) : Prop :=
  e = .returned (.int .i64 (a + (n : Int))) ∧ w'.ownsRow base 3 1 v n (intCells (marks a n)) ∧ w.grownBy w' v.ownBlock

set_option maxHeartbeats 1000000 in
theorem mark_ints (base : Nat) (A : Option Addr) (c : Nat) (xs : List Int) (a : Int) (w : World) (ha : 1 ≤ a) (hn : a + xs.length ≤ 9999999) (ho : w.ownsRow base 3 1 (.slice A xs.length c) xs.length (intCells xs)) :
    Calls Tryz.prog 35 #[.slice A xs.length c, .int .i64 a] w (MarkPost base (.slice A xs.length c) a xs.length w) := by
  go_enter Tryz.func35, Tryz.ntmps35
  go_wp2
  go_loopg [1, 5] xs.length (fun gh m i wr => ∃ k : Nat, gh = xs.length - k ∧ k ≤ xs.length ∧ i = .int .i64 k ∧ m = .int .i64 (a + (k : Int)) ∧ wr.ownsRow base 3 1 (.slice A xs.length c) xs.length (intCells (marks a k ++ xs.drop k)) ∧ w.grownBy wr (Value.slice A xs.length c).ownBlock)
  case atStart => exact ⟨0, rfl, Nat.zero_le _, rfl, by simp, by simpa [marks] using ho, World.grownBy.refl _ _⟩
  case round =>
    clear ho
    obtain ⟨k, hg, hk, rfl, rfl, ho, hb⟩ := hrel
    have HG := Lib.hid hg
    clear hg
    by_cases hlt : k < xs.length
    · obtain ⟨g, rfl⟩ := own_addr ho (by omega)
      have hset := set_mark a xs k hlt
      have hlt' : (k : Int) < (xs.length : Int) := by omega
      have hw1 := IntWalk.i64_in (a + (k : Int) + 1) (by omega)
      have hlen := ho.1
      have hcg : wr.cell? ⟨g, k, none⟩ = some ((intCells (marks a k ++ xs.drop k))[k]'(by omega)) := by
        rw [ho.cellAt k (by omega)]
        exact List.getElem?_eq_getElem _
      have hfg := ho.frozenAt k
      have hst := (ho.stored k (.int .i64 (a + (k : Int)))).1
      have hsg := (ho.stored k (.int .i64 (a + (k : Int)))).2
      rw [intCells_set, hset] at hst
      have G2 := grown_trans hb hsg
      obtain ⟨y, hy⟩ : ∃ y, y = (intCells (marks a k ++ xs.drop k))[k]'(by omega) := ⟨_, rfl⟩
      rw [← hy] at hcg
      clear hlen hy ho hb hset
      go_wp2_with fail
      go_roundg (xs.length - (k + 1))
      case measure => have := HG.out; omega
      case rel => exact ⟨k + 1, rfl, by omega, by go_num, by go_num, hst, G2⟩
    · have hke : k = xs.length := by omega
      subst hke
      rw [List.drop_length, List.append_nil] at ho
      go_wp2_with fail
      go_ret
      exact ⟨rfl, ho, hb⟩

set_option maxHeartbeats 1000000 in
theorem held_ints (A : Option Addr) (c n : Nat) (a : Int) (w : World) (ha : 1 ≤ a) (hn : a + n ≤ 9999999) (hA : Lies w A (intCells (marks a n))) :
    Calls Tryz.prog 36 #[.slice A n c, .int .i64 a] w fun e w' => e = .returned (.int .i64 (a + (n : Int))) ∧ w = w' := by
  go_enter Tryz.func36, Tryz.ntmps36
  go_wp2
  go_loop [1, 5] (fun m i => ∃ k : Nat, k ≤ n ∧ i = .int .i64 k ∧ m = .int .i64 (a + (k : Int))) (fun _ i => n - (intOf i).toNat)
  case atStart => exact ⟨0, Nat.zero_le _, rfl, by simp⟩
  case round =>
    obtain ⟨k, hk, rfl, rfl⟩ := hrel
    by_cases hlt : k < n
    · obtain ⟨b, off, rfl, hlb, hck⟩ := hA.int k (by rw [marks_len]; exact hlt)
      have hx : (marks a n)[k]'(by rw [marks_len]; exact hlt) = a + (k : Int) := by simp [marks]
      rw [hx] at hck
      have hq : ((a + (k : Int)) != (a + (k : Int))) = false := by simp
      have hlt' : (k : Int) < (n : Int) := by omega
      clear hx
      go_wp2_with fail
      go_round
      case rel => exact ⟨k + 1, by omega, by go_num, by go_num⟩
      case measure => simp [intOf]; omega
    · have hke : k = n := by omega
      subst hke
      go_wp2_with fail
      go_ret
      exact ⟨rfl, rfl⟩
end Go.Proofs.YtjmfefaoenmppaaGreatDoor

section
/-
  Space as lists of numbers: whether it is valid, what is free, one reference more, one less, and what a list of references comes to.
-/

namespace Go.Proofs.YtjmfefaoenmppaaGreatDoor

/-- Space: how many references each row has, and when the last of them was made. -/
structure Sp where
  refs : List Int
  last : List Int
/-- What is used of the rows, row by row. -/
abbrev Us := List (Int × Int)

def rowOk (i : Nat) (u : Int × Int) : Prop := (u.1 = 0 ∧ u.2 = 0) ∨ (8 ≤ i ∧ 1 ≤ u.1 ∧ u.1 ≤ u.2 ∧ u.2 ≤ 900)
instance (i : Nat) (u : Int × Int) : Decidable (rowOk i u) := by unfold rowOk; infer_instance
def usOf (s : Sp) : Us := s.refs.zip s.last
def spOf (U : Us) : Sp := ⟨U.map Prod.fst, U.map Prod.snd⟩
/-- The first k rows may be used so. -/
def UsOk (U : Us) (k : Nat) : Prop := ∀ i, i < k → rowOk i (U.getD i (0, 0))
def SpOk (s : Sp) : Prop := s.refs.length = 64 ∧ s.last.length = 64 ∧ ∀ i, i < 64 → rowOk i ((usOf s).getD i (0, 0))
instance (s : Sp) : Decidable (SpOk s) := by unfold SpOk; infer_instance
def okS (s : Sp) : Bool := decide (SpOk s)
theorem okS_yes {s : Sp} (h : SpOk s) : okS s = true := by simp [okS, h]
theorem okS_no {s : Sp} (h : ¬ SpOk s) : okS s = false := by simp [okS, h]
theorem usOf_len {s : Sp} (h1 : s.refs.length = 64) (h2 : s.last.length = 64) : (usOf s).length = 64 := by simp [usOf, h1, h2]
theorem usOf_at {s : Sp} {n : Nat} (h1 : s.refs.length = n) (h2 : s.last.length = n) (i : Nat) (hi : i < n) : (usOf s).getD i (0, 0) = (s.refs.getD i 0, s.last.getD i 0) := by
  rw [List.getD_eq_getElem?_getD, List.getD_eq_getElem?_getD, List.getD_eq_getElem?_getD]
  rw [List.getElem?_eq_getElem (show i < (usOf s).length by simp [usOf, h1, h2]; exact hi), List.getElem?_eq_getElem (by omega : i < s.refs.length), List.getElem?_eq_getElem (by omega : i < s.last.length)]
  simp [usOf]
theorem spOf_usOf {s : Sp} (h : s.refs.length = s.last.length) : spOf (usOf s) = s := by
  cases s with
  | mk r l =>
    unfold spOf usOf
    simp only at h ⊢
    rw [List.map_fst_zip (by omega), List.map_snd_zip (by omega)]
theorem usOf_spOf (U : Us) : usOf (spOf U) = U := by
  unfold usOf spOf
  simp only
  induction U with
  | nil => rfl
  | cons a U ih => simp [ih]

/-- What is used of a row, by whatever number. -/
def useAt (U : Us) (n : Int) : Int × Int := if 0 ≤ n then U.getD n.toNat (0, 0) else (0, 0)
theorem useAt_nat (U : Us) (k : Nat) : useAt U (k : Int) = U.getD k (0, 0) := by simp [useAt]
def cntU (U : Us) : Nat := (U.filter fun u => decide (u ≠ (0, 0))).length
def zeroU : Us := List.replicate 64 (0, 0)
theorem zeroU_len : zeroU.length = 64 := by simp [zeroU]
theorem zeroU_at (i : Nat) : zeroU.getD i (0, 0) = (0, 0) := by
  rw [List.getD_eq_getElem?_getD]
  unfold zeroU
  rw [List.getElem?_replicate]
  split <;> rfl
theorem useAt_zero (n : Int) : useAt zeroU n = (0, 0) := by
  unfold useAt
  split
  · exact zeroU_at _
  · rfl
theorem cnt_zero : cntU zeroU = 0 := by
  unfold cntU zeroU
  rw [List.filter_replicate]
  rfl
theorem cnt_cons (a : Int × Int) (U : Us) : cntU (a :: U) = (if a = (0, 0) then 0 else 1) + cntU U := by
  unfold cntU
  by_cases h : a = (0, 0)
  · simp [h]
  · simp [h]; omega
theorem cnt_set : ∀ (U : Us) (i : Nat) (u : Int × Int), i < U.length →
    cntU (U.set i u) + (if U.getD i (0, 0) = (0, 0) then 0 else 1) = cntU U + (if u = (0, 0) then 0 else 1)
  | a :: U, 0, u, _ => by
    rw [List.set_cons_zero, cnt_cons, cnt_cons, List.getD_cons_zero]
    omega
  | a :: U, i + 1, u, h => by
    have ih := cnt_set U i u (by simpa using h)
    rw [List.set_cons_succ, cnt_cons, cnt_cons, List.getD_cons_succ]
    omega
theorem useAt_set_same {U : Us} {n : Int} {u : Int × Int} (h0 : 0 ≤ n) (h : n.toNat < U.length) : useAt (U.set n.toNat u) n = u := by
  unfold useAt
  rw [if_pos h0, List.getD_eq_getElem?_getD, List.getElem?_set_self h]
  rfl
theorem useAt_set_other {U : Us} {n m : Int} {u : Int × Int} (h0 : 0 ≤ n) (hne : m ≠ n) : useAt (U.set n.toNat u) m = useAt U m := by
  unfold useAt
  split
  · rw [List.getD_eq_getElem?_getD, List.getElem?_set_ne (by omega), ← List.getD_eq_getElem?_getD]
  · rfl
theorem spOf_set (U : Us) (i : Nat) (u : Int × Int) : spOf (U.set i u) = ⟨(spOf U).refs.set i u.1, (spOf U).last.set i u.2⟩ := by
  unfold spOf
  simp [List.map_set]

/-- A new one, and one that nothing told. -/
def newS : Sp := ⟨List.replicate 64 0, List.replicate 64 0⟩
def noS : Sp := ⟨[], []⟩
theorem newS_of : spOf zeroU = newS := by simp [spOf, zeroU, newS]
def roomS (s : Sp) : Int := if SpOk s then 56 - (cntU (usOf s) : Int) else -1
/-- One more, made then. -/
def takeU (U : Us) (n t : Int) : Us := U.set n.toNat ((useAt U n).1 + 1, max (useAt U n).2 t)
def takeS (s : Sp) (n t : Int) : Sp × Bool :=
  if SpOk s ∧ 8 ≤ n ∧ n ≤ 63 ∧ (useAt (usOf s) n).2 < t ∧ t ≤ 900 then (spOf (takeU (usOf s) n t), true) else (noS, false)
/-- One less. -/
def giveU (U : Us) (n : Int) : Us := U.set n.toNat (if (useAt U n).1 = 1 then (0, 0) else ((useAt U n).1 - 1, (useAt U n).2))
def giveS (s : Sp) (n : Int) : Sp × Bool := if SpOk s ∧ useAt (usOf s) n ≠ (0, 0) then (spOf (giveU (usOf s) n), true) else (noS, false)
/-- The first of the next k rows, from one on and round about, that is free and not on a list. -/
def rowAt (f : Int) (i : Nat) : Int := 8 + (f - 8 + i) % 56
def seek (U : Us) (but : List Int) (f : Int) : Nat → Nat → Int
  | _, 0 => -1
  | i, k + 1 => if useAt U (rowAt f i) = (0, 0) ∧ rowAt f i ∉ but then rowAt f i else seek U but f (i + 1) k
def fromOf (f : Int) : Int := if 8 ≤ f ∧ f ≤ 63 then f else 8
def findS (s : Sp) (f : Int) (but : List Int) : Int := if SpOk s then seek (usOf s) but (fromOf f) 0 56 else -1
theorem fromOf_in (f : Int) : 8 ≤ fromOf f ∧ fromOf f ≤ 63 := by unfold fromOf; split <;> omega
theorem rowAt_in (f : Int) (i : Nat) : 8 ≤ rowAt f i ∧ rowAt f i ≤ 63 := by unfold rowAt; omega

/-- What a valid space has of a row. -/
theorem use_ok {s : Sp} (h : SpOk s) {n : Int} : (useAt (usOf s) n = (0, 0)) ∨ (8 ≤ n ∧ n ≤ 63 ∧ 1 ≤ (useAt (usOf s) n).1 ∧ (useAt (usOf s) n).1 ≤ (useAt (usOf s) n).2 ∧ (useAt (usOf s) n).2 ≤ 900) := by
  unfold useAt
  split
  · by_cases hn : n.toNat < 64
    · rcases h.2.2 n.toNat hn with ⟨a, b⟩ | ⟨a, b, c, d⟩
      · exact .inl (Prod.ext a b)
      · exact .inr ⟨by omega, by omega, b, c, d⟩
    · left
      rw [List.getD_eq_getElem?_getD, List.getElem?_eq_none (by rw [usOf_len h.1 h.2.1]; omega)]
      rfl
  · exact .inl rfl
end Go.Proofs.YtjmfefaoenmppaaGreatDoor
end

namespace Go.Proofs.YtjmfefaoenmppaaGreatDoor
open Go.RowKit

/-- s lies behind two slice addresses. -/
def SpAt (w : World) (A B : Option Addr) (s : Sp) : Prop := Lies w A (intCells s.refs) ∧ Lies w B (intCells s.last)
theorem SpAt.below {w w' : World} {A B : Option Addr} {s : Sp} (h : SpAt w A B s) (hb : Below w.heap.size w w') : SpAt w' A B s := ⟨h.1.below hb, h.2.below hb⟩
/-- s lies in memory of the call's own. -/
def SpOwn (w : World) (base : Nat) (v : Value) (s : Sp) : Prop :=
  ∃ (u1 u2 : Value), v = .agg #[u1, u2] ∧ w.ownsRow base 3 1 u1 s.refs.length (intCells s.refs) ∧ w.ownsRow base 3 1 u2 s.last.length (intCells s.last) ∧ ∀ k, u1.ownBlock = some k → u2.ownBlock ≠ some k
theorem SpOwn.below {w w' : World} {base : Nat} {v : Value} {s : Sp} (h : SpOwn w base v s) (hb : Below w.heap.size w w') : SpOwn w' base v s := by
  obtain ⟨u1, u2, e, h1, h2, h3⟩ := h
  exact ⟨u1, u2, e, own_bel h1 hb, own_bel h2 hb, h3⟩
theorem SpOwn.base {w : World} {base base' : Nat} {v : Value} {s : Sp} (h : SpOwn w base v s) (hb : base' ≤ base) : SpOwn w base' v s := by
  obtain ⟨u1, u2, e, h1, h2, h3⟩ := h
  exact ⟨u1, u2, e, own_base h1 hb, own_base h2 hb, h3⟩
theorem SpOwn.at_ {w : World} {base : Nat} {v : Value} {s : Sp} (h : SpOwn w base v s) : ∃ A c B e, v = .agg #[.slice A s.refs.length c, .slice B s.last.length e] ∧ SpAt w A B s := by
  obtain ⟨u1, u2, rfl, h1, h2, _⟩ := h
  obtain ⟨A, c, rfl, l1⟩ := own_lies h1
  obtain ⟨B, e, rfl, l2⟩ := own_lies h2
  exact ⟨A, c, B, e, rfl, l1, l2⟩
theorem SpOwn.lies {w : World} {base : Nat} {A B : Option Addr} {c e : Nat} {s : Sp} (h : SpOwn w base (.agg #[.slice A s.refs.length c, .slice B s.last.length e]) s) : SpAt w A B s := by
  obtain ⟨A', c', B', e', hv, h'⟩ := h.at_
  simp only [Value.agg.injEq, Array.mk.injEq, List.cons.injEq, Value.slice.injEq, and_true, true_and] at hv
  obtain ⟨⟨rfl, rfl⟩, rfl, rfl⟩ := hv
  exact h'
theorem SpOwn.set {W : World} {base : Nat} {v : Value} {s : Sp} (h : SpOwn W base v s) {p : Addr} (hp : p.block < base) (u : Value) : SpOwn (W.setCell p u) base v s := by
  obtain ⟨u1, u2, e, h1, h2, h3⟩ := h
  exact ⟨u1, u2, e, own_set h1 hp u, own_set h2 hp u, h3⟩
/-- .. below a block. -/
def SpIn (w : World) (base top : Nat) (v : Value) (s : Sp) : Prop :=
  ∃ (u1 u2 : Value), v = .agg #[u1, u2] ∧ (w.ownsRow base 3 1 u1 s.refs.length (intCells s.refs) ∧ ∀ k, u1.ownBlock = some k → k < top) ∧ (w.ownsRow base 3 1 u2 s.last.length (intCells s.last) ∧ ∀ k, u2.ownBlock = some k → k < top) ∧ ∀ k, u1.ownBlock = some k → u2.ownBlock ≠ some k
theorem SpOwn.in_ {w : World} {base : Nat} {v : Value} {s : Sp} (h : SpOwn w base v s) : SpIn w base w.heap.size v s := by
  obtain ⟨u1, u2, e, h1, h2, h3⟩ := h
  exact ⟨u1, u2, e, ⟨h1, fun k hk => (h1.lt k hk).2⟩, ⟨h2, fun k hk => (h2.lt k hk).2⟩, h3⟩
theorem SpIn.own {w : World} {base top : Nat} {v : Value} {s : Sp} (h : SpIn w base top v s) : SpOwn w base v s := by
  obtain ⟨u1, u2, e, h1, h2, h3⟩ := h
  exact ⟨u1, u2, e, h1.1, h2.1, h3⟩
theorem SpIn.below {w w' : World} {base top : Nat} {v : Value} {s : Sp} (h : SpIn w base top v s) (hb : Below w.heap.size w w') : SpIn w' base top v s := by
  obtain ⟨u1, u2, e, h1, h2, h3⟩ := h
  exact ⟨u1, u2, e, ⟨own_bel h1.1 hb, h1.2⟩, ⟨own_bel h2.1 hb, h2.2⟩, h3⟩
theorem SpIn.only {w w' : World} {lo hi base top : Nat} {v : Value} {s : Sp} (h : SpIn w base top v s) (hg : Only lo hi w w') (hb : hi ≤ base ∨ top ≤ lo) : SpIn w' base top v s := by
  obtain ⟨u1, u2, e, h1, h2, h3⟩ := h
  exact ⟨u1, u2, e, ⟨own_only h1.1 hg (fun k hk => by have := (h1.1.lt k hk).1; have := h1.2 k hk; omega), h1.2⟩, ⟨own_only h2.1 hg (fun k hk => by have := (h2.1.lt k hk).1; have := h2.2 k hk; omega), h2.2⟩, h3⟩

/-- A space is returned, in memory of the call's own. -/
def SPost (s : Sp) (w : World) (r : Ending) (w' : World) : Prop :=
  ∃ A c B e, r = .returned (.agg #[.slice A s.refs.length c, .slice B s.last.length e]) ∧ SpOwn w' w.heap.size (.agg #[.slice A s.refs.length c, .slice B s.last.length e]) s ∧ Below w.heap.size w w'
/-- A space and a bool are returned. -/
def SPost2 (s : Sp) (b : Bool) (w : World) (r : Ending) (w' : World) : Prop :=
  ∃ A c B e, r = .returned (.tuple #[.agg #[.slice A s.refs.length c, .slice B s.last.length e], .bool b]) ∧ SpOwn w' w.heap.size (.agg #[.slice A s.refs.length c, .slice B s.last.length e]) s ∧ Below w.heap.size w w'
theorem noS_own (w : World) (base : Nat) : SpOwn w base (.agg #[.slice none 0 0, .slice none 0 0]) noS :=
  ⟨_, _, rfl, ⟨rfl, .inl ⟨rfl, rfl⟩⟩, ⟨rfl, .inl ⟨rfl, rfl⟩⟩, fun k hk => by cases hk⟩

set_option maxHeartbeats 1000000 in
theorem sz_space (A B : Option Addr) (c e n m : Nat) (L : Int) (w : World) (hL0 : 0 ≤ L) (hL : L ≤ 1048576) (hn : n ≤ maxLen) (hm : m ≤ maxLen) :
    Calls Tryz.prog 38 #[.agg #[.slice A n c, .slice B m e], .int .i64 L] w (SzPost (n + m) L w) := by
  have hS := fun W => sz_ints A c n L W hL0 hL hn
  have hT := fun L2 W h1 h2 => sz_ints B e m L2 W h1 h2 hm
  clear hn hm
  go_enter Tryz.func38, Tryz.ntmps38
  go_wp2_with (go_at_call 69; refine (hS _).mono ?_; rintro r w2 ⟨z, rfl, hb2, hz⟩; have B2 := bel_then (bel_new (Below.refl _ _) _) hb2; obtain ⟨hc, hf⟩ := bcell hb2; refine Hid.out ?_)
  refine Lib.hid ?_
  by_cases hzz : z < 0
  · go_wp2_with fail
    go_ret
    exact ⟨_, rfl, B2, by intro h; omega⟩
  · have hT2 := fun W => hT z W (by omega) (by have := hz (by omega); omega)
    go_wp2_with (go_at_call 69; refine (hT2 _).mono ?_; rintro r w3 ⟨y, rfl, hb3, hy⟩; have B3 := bel_then B2 hb3; refine Hid.out ?_)
    refine Lib.hid ?_
    by_cases hyy : y < 0
    · go_wp2_with fail
      go_ret
      exact ⟨_, rfl, B3, by intro h; omega⟩
    · go_wp2_with fail
      go_ret
      exact ⟨_, rfl, B3, by intro h; have := hz (by omega); have := hy (by omega); omega⟩

set_option maxHeartbeats 1000000 in
theorem to_space (A B : Option Addr) (c e : Nat) (s : Sp) (w : World) (hn : s.refs.length ≤ 1048576) (hm : s.last.length ≤ 1048576) (hA : SpAt w A B s) :
    Calls Tryz.prog 43 #[.agg #[.slice A s.refs.length c, .slice B s.last.length e]] w (SPost s w) := by
  have hS := fun W hW => to_ints A c s.refs W hn (hA.1.below (w' := W) hW)
  have hT := fun W hW => to_ints B e s.last W hm (hA.2.below (w' := W) hW)
  go_enter Tryz.func43, Tryz.ntmps43
  go_wp2_with (first
    | (go_at_call 75; ((with_reducible refine (hS _ (bel_new (bel_new (bel_new (Below.refl _ _) _) _) _)).mono ?_); rintro r w2 ⟨g, rfl, ho, hb2⟩; have B2 := bel_then (bel_new (bel_new (bel_new (Below.refl _ _) _) _) _) hb2; obtain ⟨hc, hf⟩ := bcell hb2; have s2 : w.heap.size + 1 + 1 + 1 ≤ w2.heap.size := (by have := hb2.size; simpa using this); have q0 : w.heap.size < w2.heap.size := (by omega); have q1 : w.heap.size + 1 < w2.heap.size := (by omega); have q2 : w.heap.size + 1 + 1 < w2.heap.size := (by omega)))
    | (go_at_call 75; refine (hT _ (B2.setCell (p := ⟨w.heap.size + 1 + 1, 0, none⟩) (by show w.heap.size ≤ w.heap.size + 1 + 1; omega) _)).mono ?_; rintro r w3 ⟨g2, rfl, ho2, hb3⟩; have glt := (ho.lt g rfl).2; have ho3 := own_base (base' := w.heap.size + 1 + 1 + 1) (own_bel (own_set (p := ⟨w.heap.size + 1 + 1, 0, none⟩) ho (by simp) _) hb3) (by simp); rw [size_set] at ho2; have glt2 := (ho2.lt g2 rfl).1; have ho4 := own_base (base' := w.heap.size + 1 + 1 + 1) ho2 s2; have B3 := bel_then (B2.setCell (p := ⟨w.heap.size + 1 + 1, 0, none⟩) (by show w.heap.size ≤ w.heap.size + 1 + 1; omega) _) hb3; obtain ⟨hc3, hf3⟩ := bcell hb3; rw [size_set] at hc3 hf3))
  have fin : ∀ {W : World} {tt : TypeId} {sz n : Nat} {v : Value} {xs : List Value}, W.ownsRow (w.heap.size + 1 + 1 + 1) tt sz v n xs → ∀ a c d : Value, (((W.setCell ⟨w.heap.size + 1 + 1, 1, none⟩ a).setCell ⟨w.heap.size + 1, 0, none⟩ c).setCell ⟨w.heap.size + 1, 1, none⟩ d).ownsRow w.heap.size tt sz v n xs := fun h a c d =>
    own_base (own_set (own_set (own_set h (by show w.heap.size + 1 + 1 < _; omega) _) (by show w.heap.size + 1 < _; omega) _) (by show w.heap.size + 1 < _; omega) _) (by omega)
  refine bodyPost_ret (v := .agg #[.slice (some ⟨g, 0, none⟩) s.refs.length s.refs.length, .slice (some ⟨g2, 0, none⟩) s.last.length s.last.length]) (by simp [results, Tryz.f43, go_sem, *]) rfl ⟨_, _, _, _, rfl, ⟨_, _, rfl, fin ho3 _ _ _, fin ho4 _ _ _, fun k h1 h2 => ?_⟩, ?_⟩
  · simp only [Value.ownBlock, Option.some.injEq] at h1 h2
    omega
  · exact ((B3.setCell (by show w.heap.size ≤ w.heap.size + 1 + 1; omega) _).setCell (by show w.heap.size ≤ w.heap.size + 1; omega) _).setCell (by show w.heap.size ≤ w.heap.size + 1; omega) _

set_option maxHeartbeats 1000000 in
theorem eq_space (A B A2 B2 : Option Addr) (c e c2 e2 : Nat) (s : Sp) (w : World) (hn : s.refs.length ≤ 1048576) (hm : s.last.length ≤ 1048576) (h1 : SpAt w A B s) (h2 : SpAt w A2 B2 s) :
    Calls Tryz.prog 48 #[.agg #[.slice A s.refs.length c, .slice B s.last.length e], .agg #[.slice A2 s.refs.length c2, .slice B2 s.last.length e2]] w fun r w' => r = .returned (.bool true) ∧ Below w.heap.size w w' := by
  have hS := fun W hW => eq_ints A A2 c c2 s.refs W hn (h1.1.below (w' := W) hW) (h2.1.below hW)
  have hT := fun W hW => eq_ints B B2 e e2 s.last W hm (h1.2.below (w' := W) hW) (h2.2.below hW)
  obtain ⟨n, hn'⟩ : ∃ n, n = s.refs.length := ⟨_, rfl⟩
  obtain ⟨m, hm'⟩ : ∃ m, m = s.last.length := ⟨_, rfl⟩
  rw [← hn'] at hS ⊢
  rw [← hm'] at hT ⊢
  clear hn hm hn' hm' h1 h2
  go_enter Tryz.func48, Tryz.ntmps48
  go_wp2_with (first
    | (go_at_call 34; ((with_reducible refine (hS _ (bel_new (bel_new (Below.refl _ _) _) _)).mono ?_); rintro r w2 ⟨rfl, hb2⟩; have B2 := bel_then (bel_new (bel_new (Below.refl _ _) _) _) hb2; obtain ⟨hc, hf⟩ := bcell hb2))
    | (go_at_call 34; refine (hT _ B2).mono ?_; rintro r w3 ⟨rfl, hb3⟩; have B3 := bel_then B2 hb3))
  go_ret
  exact ⟨rfl, B3⟩

theorem eq_own {w : World} {b1 b2 : Nat} {A B A2 B2 : Option Addr} {c e c2 e2 : Nat} {s : Sp} (hn : s.refs.length ≤ 1048576) (hm : s.last.length ≤ 1048576) (h1 : SpOwn w b1 (.agg #[.slice A s.refs.length c, .slice B s.last.length e]) s) (h2 : SpOwn w b2 (.agg #[.slice A2 s.refs.length c2, .slice B2 s.last.length e2]) s) :
    Calls Tryz.prog 48 #[.agg #[.slice A s.refs.length c, .slice B s.last.length e], .agg #[.slice A2 s.refs.length c2, .slice B2 s.last.length e2]] w fun r w' => r = .returned (.bool true) ∧ Below w.heap.size w w' :=
  eq_space A B A2 B2 c e c2 e2 s w hn hm h1.lies h2.lies

/-- A space with its marks. -/
def markS (s : Sp) : Sp := ⟨marks 1 s.refs.length, marks (1 + (s.refs.length : Int)) s.last.length⟩
theorem markS_1 (s : Sp) : (markS s).refs.length = s.refs.length := by simp [markS, marks_len]
theorem markS_2 (s : Sp) : (markS s).last.length = s.last.length := by simp [markS, marks_len]

set_option maxHeartbeats 1000000 in
theorem mark_space (base top : Nat) (A B : Option Addr) (c e : Nat) (s : Sp) (w : World) (hn : s.refs.length ≤ 1048576) (hm : s.last.length ≤ 1048576) (htop : top ≤ w.heap.size) (h : SpIn w base top (.agg #[.slice A s.refs.length c, .slice B s.last.length e]) s) :
    Calls Tryz.prog 53 #[.agg #[.slice A s.refs.length c, .slice B s.last.length e], .int .i64 1] w fun r w' => r = .returned (.int .i64 (1 + (s.refs.length : Int) + (s.last.length : Int))) ∧ SpIn w' base top (.agg #[.slice A s.refs.length c, .slice B s.last.length e]) (markS s) ∧ Only base top w w' := by
  obtain ⟨u1, u2, e0, ⟨h1, t1⟩, ⟨h2, t2⟩, hne⟩ := h
  simp only [Value.agg.injEq, Array.mk.injEq, List.cons.injEq, and_true] at e0
  obtain ⟨rfl, rfl⟩ := e0
  have hS := fun W hW => mark_ints base A c s.refs 1 W (by omega) (by omega) hW
  have hT := fun W hW => mark_ints base B e s.last (1 + (s.refs.length : Int)) W (by omega) (by omega) hW
  have r1 : ∀ k, (Value.slice A s.refs.length c).ownBlock = some k → base ≤ k ∧ k < top := fun k hk => ⟨(h1.lt k hk).1, t1 k hk⟩
  have r2 : ∀ k, (Value.slice B s.last.length e).ownBlock = some k → base ≤ k ∧ k < top := fun k hk => ⟨(h2.lt k hk).1, t2 k hk⟩
  have f1 : ∀ k, (Value.slice A s.refs.length c).ownBlock = some k → k < w.heap.size := fun k hk => (h1.lt k hk).2
  have hne1 : (Value.slice B s.last.length e).ownBlock = none ∨ (Value.slice B s.last.length e).ownBlock ≠ (Value.slice A s.refs.length c).ownBlock := by
    cases e1 : (Value.slice A s.refs.length c).ownBlock with
    | none =>
      cases e2 : (Value.slice B s.last.length e).ownBlock with
      | none => exact .inl rfl
      | some k => exact .inr (by simp)
    | some k => exact .inr (hne k e1)
  have hne2 : (Value.slice A s.refs.length c).ownBlock = none ∨ (Value.slice A s.refs.length c).ownBlock ≠ (Value.slice B s.last.length e).ownBlock := by
    cases e1 : (Value.slice A s.refs.length c).ownBlock with
    | none => exact .inl rfl
    | some k => exact .inr fun e2 => hne k e1 e2.symm
  have fin : ∀ W : World, W.ownsRow base 3 1 (.slice A s.refs.length c) s.refs.length (intCells (marks 1 s.refs.length)) → W.ownsRow base 3 1 (.slice B s.last.length e) s.last.length (intCells (marks (1 + (s.refs.length : Int)) s.last.length)) → SpIn W base top (.agg #[.slice A s.refs.length c, .slice B s.last.length e]) (markS s) := fun W k1 k2 =>
    ⟨_, _, rfl, ⟨by rw [markS_1]; exact k1, t1⟩, ⟨by rw [markS_2]; exact k2, t2⟩, hne⟩
  have FIN := Lib.hid fin
  have HNE := Lib.hid hne1
  have HNE2 := Lib.hid hne2
  clear fin hne hne1 hne2
  go_enter Tryz.func53, Tryz.ntmps53
  go_wp2_with (first
    | (go_at_call 35
       ((with_reducible refine (hS _ (h1.alloc _)).mono ?_)
        rintro r w2 ⟨rfl, o1, g1⟩
        have o2 := (h2.alloc _).kept g1 HNE.out
        have hc : ∀ o, w2.cell? ⟨w.heap.size, o, none⟩ = (w.alloc _).cell? ⟨w.heap.size, o, none⟩ := fun o => World.cell?_of_block (g1.block w.heap.size (by simp) (fun e => absurd (f1 _ e.symm) (Nat.lt_irrefl _)))))
    | (go_at_call 35
       refine (hT _ o2).mono ?_
       rintro r w3 ⟨rfl, o3, g3⟩))
  go_ret
  exact ⟨rfl, FIN.out _ (o1.kept g3 HNE2.out) o3, (Only.of_below (bel_new (Below.refl _ _) _)).trans ((Only.of_grown g1 r1).trans (Only.of_grown g3 r2))⟩

set_option maxHeartbeats 1000000 in
theorem held_space (base : Nat) (A B : Option Addr) (c e : Nat) (s : Sp) (w : World) (hn : s.refs.length ≤ 1048576) (hm : s.last.length ≤ 1048576) (h : SpOwn w base (.agg #[.slice A s.refs.length c, .slice B s.last.length e]) (markS s)) :
    Calls Tryz.prog 63 #[.agg #[.slice A s.refs.length c, .slice B s.last.length e], .int .i64 1] w fun r w' => r = .returned (.int .i64 (1 + (s.refs.length : Int) + (s.last.length : Int))) ∧ Below w.heap.size w w' := by
  have hl := SpOwn.lies (s := markS s) (A := A) (B := B) (c := c) (e := e) (base := base) (w := w) (by rw [markS_1, markS_2]; exact h)
  have hS := fun W hW => held_ints A c s.refs.length 1 W (by omega) (by omega) (hl.1.below (w' := W) hW)
  have hT := fun W hW => held_ints B e s.last.length (1 + (s.refs.length : Int)) W (by omega) (by omega) (hl.2.below (w' := W) hW)
  have nn1 : ¬ (1 + (s.refs.length : Int)) < 0 := by omega
  have nn2 : ¬ (1 + (s.refs.length : Int) + (s.last.length : Int)) < 0 := by omega
  clear h hl
  go_enter Tryz.func63, Tryz.ntmps63
  go_wp2_with (first
    | (go_at_call 36; ((with_reducible refine (hS _ (bel_new (Below.refl _ _) _)).mono ?_); rintro r w2 ⟨rfl, rfl⟩))
    | (go_at_call 36; refine (hT _ (bel_new (Below.refl _ _) _)).mono ?_; rintro r w3 ⟨rfl, rfl⟩))
  go_ret
  exact ⟨rfl, bel_new (Below.refl _ _) _⟩
end Go.Proofs.YtjmfefaoenmppaaGreatDoor

namespace Go.Proofs.YtjmfefaoenmppaaGreatDoor
open Go.RowKit
structure SArg (w : World) (A B : Option Addr) (s : Sp) : Prop where
  n : s.refs.length ≤ maxLen
  m : s.last.length ≤ maxLen
  at_ : SpAt w A B s
end Go.Proofs.YtjmfefaoenmppaaGreatDoor

namespace Go.Proofs.YtjmfefaoenmppaaGreatDoor
open Go.Joins Go.ChangeShapes Go.WideShapes Go.ChangeAt Go.RowKit Go.Deep

theorem own : ownKnob Tryz.prog.godebug = none := by kernel_rfl
theorem laidOut : laidOutB Tryz.prog = true := by kernel_rfl
theorem cells3' : Tryz.prog.cellsOf 3 = 1 := by kernel_rfl

theorem ints_of {H : Type} {enc : TypeId × Value → H} {W : World} {base : Nat} {spare : Nat → Bool} {held : Bool} {fuel : Nat} {v : Value} {x : DataW H × List MemPlace}
    (h : DataW.trod enc Tryz.prog W base spare held fuel 23 [v] = some x) :
    ∃ (A : Option Addr) (cap : Nat) (xs : List Int), v = .slice A xs.length cap ∧ xs.length ≤ maxLen ∧ (∀ n ∈ xs, (Lit.int .i64 n).wf = true) ∧ Lies W A (intCells xs) := by
  rcases open_ints Tryz.underlying23 Tryz.underlying3 cells3' h with ⟨hcs, _⟩ | ⟨a, len, cp, zs, hcs, _, hl, hm, hlen, _, hcell, hws⟩
  · simp only [List.cons.injEq, and_true] at hcs
    subst hcs
    exact ⟨none, 0, [], rfl, by simp, by simp, Lies.nil _ _⟩
  · simp only [List.cons.injEq, and_true] at hcs
    subst hcs
    have hle : len ≤ zs.length := by rw [hlen]; split <;> omega
    have hlt : (zs.take len).length = len := by simp; omega
    refine ⟨some a, cp, zs.take len, by rw [hlt], by rw [hlt]; omega, fun n hn => hws n (List.mem_of_mem_take hn), fun h0 => ?_⟩
    rw [intCells_len, hlt] at h0
    have hc0 := hcell 0 (by omega)
    obtain ⟨b, off, spot⟩ := a
    have hspot : spot = none := by simpa [Addr.add] using World.cell?_spot hc0
    subst hspot
    refine ⟨b, off, rfl, World.block_lt_of_cell? W (Addr.add ⟨b, off, none⟩ 0) hc0, fun j v hj => ?_⟩
    have hj2 : j < len := by
      have := (List.getElem?_eq_some_iff.1 hj).1
      rw [intCells_len, hlt] at this
      exact this
    have hcj := hcell j (by omega)
    rw [Addr.add_mid] at hcj
    rw [hcj, ← hj, intCells_at _ j (by rw [hlt]; exact hj2)]
    simp [List.getD_eq_getElem?_getD, List.getElem?_eq_getElem (show j < zs.length by omega)]

set_option maxRecDepth 100000 in
theorem space_open {H : Type} {enc : TypeId × Value → H} {W : World} {base b0 : Nat} {spare : Nat → Bool} {held : Bool} {r : Reach} {v : Value} {d : DataW H} {p : List MemPlace}
    (hv : Value.okWide Tryz.prog W r b0 25 v) (h : DataW.Trod enc Tryz.prog W base spare held 25 v d p) : ∃ (A : Option Addr) (c : Nat) (B : Option Addr) (e : Nat) (k : Sp), v = .agg #[.slice A k.refs.length c, .slice B k.last.length e] ∧ SArg W A B k := by
  obtain ⟨cs, rfl, hsz⟩ := okWide_struct Tryz.underlying25 hv
  obtain ⟨l⟩ := cs
  match l, hsz.trans (show Tryz.prog.cellsOf 25 = 2 by kernel_rfl) with
  | [c0, c1], _ =>
    obtain ⟨fuel, hf⟩ := h
    obtain ⟨xs, n, _, hx, _, hlen, hg⟩ := DataW.trod_struct Tryz.underlying25 hf
    match xs, hlen with
    | [y0, y1], _ =>
      have c22 : Tryz.prog.cellsOf 23 = 1 := by kernel_rfl
      obtain ⟨A, c, ss, rfl, g1, g2, g3⟩ := ints_of (by simpa [Value.cells, c22] using hg 0 _ rfl)
      obtain ⟨B, e, ws, rfl, k1, k2, k3⟩ := ints_of (by simpa [Value.cells, c22] using hg 1 _ rfl)
      exact ⟨A, c, B, e, ⟨ss, ws⟩, rfl, g1, k1, g3, k3⟩

/-- A row of numbers that came in. -/
theorem ints_open {H : Type} {enc : TypeId × Value → H} {W : World} {base : Nat} {spare : Nat → Bool} {held : Bool} {l c : Nat} {A : Option Addr} {d : DataW H} {p : List MemPlace}
    (h : DataW.Trod enc Tryz.prog W base spare held 23 (.slice A l c) d p) : ∃ xs : List Int, l = xs.length ∧ xs.length ≤ maxLen ∧ Lies W A (intCells xs) := by
  obtain ⟨fuel, hf⟩ := h
  obtain ⟨A', c', xs, he, g1, _, g3⟩ := ints_of (v := .slice A l c) (by simpa [Value.cells] using hf)
  injection he with e1 e2 e3
  subst e1
  exact ⟨xs, e2, g1, g3⟩
end Go.Proofs.YtjmfefaoenmppaaGreatDoor

namespace Go.Proofs.YtjmfefaoenmppaaGreatDoor

def inB (n lo hi : Int) : Bool := decide (lo ≤ n ∧ n ≤ hi)
theorem inB_yes {n lo hi : Int} (h : lo ≤ n ∧ n ≤ hi) : inB n lo hi = true := by simp [inB, h]
theorem inB_no {n lo hi : Int} (h : ¬ (lo ≤ n ∧ n ≤ hi)) : inB n lo hi = false := by simp only [inB, decide_eq_false_iff_not]; exact h
def same (a b c d e a' b' c' d' e' : Int) : Bool := a == a' && b == b' && c == c' && d == d' && e == e'
def isHole (a b c d e : Int) : Bool := same a b c d e 0 0 0 0 0
def isOk (a b c d e : Int) : Bool := isHole a b c d e || (inB a 8 63 && inB b 1 900 && inB c 1 128 && inB d 0 99460728 && inB e 0 2)
structure P5 where
  a : Int
  b : Int
  c : Int
  d : Int
  e : Int
def P5.zero : P5 := ⟨0, 0, 0, 0, 0⟩
def P5.hole (p : P5) : Bool := isHole p.a p.b p.c p.d p.e
def P5.ok (p : P5) : Bool := isOk p.a p.b p.c p.d p.e
theorem inB_iff {n lo hi : Int} : inB n lo hi = true ↔ lo ≤ n ∧ n ≤ hi := by simp [inB]
theorem P5.hole_zero {p : P5} (h : p.hole = true) : p.a = 0 ∧ p.b = 0 := by
  unfold P5.hole isHole same at h
  simp only [Bool.and_eq_true, beq_iff_eq] at h
  omega
theorem P5.ok_bounds {p : P5} (h : p.ok = true) (hh : p.hole = false) : (8 ≤ p.a ∧ p.a ≤ 63) ∧ (1 ≤ p.b ∧ p.b ≤ 900) ∧ (1 ≤ p.c ∧ p.c ≤ 128) ∧ (0 ≤ p.d ∧ p.d ≤ 99460728) ∧ 0 ≤ p.e ∧ p.e ≤ 2 := by
  unfold P5.hole at hh
  unfold P5.ok isOk at h
  rw [hh] at h
  simp only [Bool.false_or, Bool.and_eq_true, inB_iff] at h
  omega
theorem P5.ok_row {p : P5} (h : p.ok = true) : 0 ≤ p.a ∧ p.a ≤ 63 := by
  cases hh : p.hole with
  | true => have := P5.hole_zero hh; omega
  | false => have := P5.ok_bounds h hh; omega

/-- A store. -/
structure St where
  rows : List ByteArray
  sp : Sp
  txg : Int
  gone : List P5
  keep : Int
  dead : List P5
  same : Bool
def b0 : ByteArray := ⟨#[]⟩
def newSt (b : Bool) : St := ⟨List.replicate 64 b0, newS, 1, [], 0, [], b⟩
def noSt : St := ⟨[], noS, 0, [], 0, [], false⟩
/-- How many pointers of a list lead to a row. -/
def cntAt (L : List P5) (n : Int) : Nat := (L.filter fun p => p.a == n).length
theorem cntAt_nil (n : Int) : cntAt [] n = 0 := rfl
theorem cntAt_snoc (L : List P5) (p : P5) (n : Int) : cntAt (L ++ [p]) n = cntAt L n + if p.a = n then 1 else 0 := by
  unfold cntAt
  rw [List.filter_append, List.length_append]
  by_cases h : p.a = n <;> simp [h]
theorem cntAt_le (L : List P5) (n : Int) : cntAt L n ≤ L.length := List.length_filter_le _ _
/-- A pointer may be one of those that are given up, of which some are told already. -/
def okAt (R : List Int) (pre : List P5) (top : Int) (p : P5) : Prop := p.ok = true ∧ p.b ≤ top ∧ ((cntAt pre p.a : Nat) : Int) < R.getD p.a.toNat 0
instance (R : List Int) (pre : List P5) (top : Int) (p : P5) : Decidable (okAt R pre top p) := by unfold okAt; infer_instance
/-- .. the first k of a list. -/
def okTo (R : List Int) (pre L : List P5) (top : Int) (k : Nat) : Prop := ∀ j, j < k → okAt R (pre ++ L.take j) top (L.getD j P5.zero)
def TakeOk (R : List Int) (pre L : List P5) (top : Int) : Prop := ∀ j, j < L.length → okAt R (pre ++ L.take j) top (L.getD j P5.zero)
instance (R : List Int) (pre L : List P5) (top : Int) : Decidable (TakeOk R pre L top) := by unfold TakeOk; infer_instance
def takeB (R : List Int) (pre L : List P5) (top : Int) : Bool := decide (TakeOk R pre L top)
/-- A row of texts fits its use. -/
def rowFit (x : ByteArray) (u : Int × Int) (txg : Int) : Prop := x.size ≤ 128 ∧ (x.size = 0 ↔ u.1 = 0) ∧ u.2 ≤ txg
instance (x : ByteArray) (u : Int × Int) (txg : Int) : Decidable (rowFit x u txg) := by unfold rowFit; infer_instance
def RowsOk (s : St) : Prop := ∀ i, i < 64 → rowFit (s.rows.getD i b0) (s.sp.refs.getD i 0, s.sp.last.getD i 0) s.txg
instance (s : St) : Decidable (RowsOk s) := by unfold RowsOk; infer_instance
structure StOk (s : St) : Prop where
  len : s.rows.length = 64
  sp : SpOk s.sp
  txg : 1 ≤ s.txg ∧ s.txg ≤ 900
  keep : 0 ≤ s.keep ∧ s.keep ≤ s.txg - 1
  rows : RowsOk s
  gone : TakeOk s.sp.refs [] s.gone (s.txg - 1)
  dead : TakeOk s.sp.refs s.gone s.dead s.keep
instance (s : St) : Decidable (StOk s) := decidable_of_iff (s.rows.length = 64 ∧ SpOk s.sp ∧ (1 ≤ s.txg ∧ s.txg ≤ 900) ∧ (0 ≤ s.keep ∧ s.keep ≤ s.txg - 1) ∧ RowsOk s ∧ TakeOk s.sp.refs [] s.gone (s.txg - 1) ∧ TakeOk s.sp.refs s.gone s.dead s.keep)
  ⟨fun ⟨a, b, c, d, e, f, g⟩ => ⟨a, b, c, d, e, f, g⟩, fun ⟨a, b, c, d, e, f, g⟩ => ⟨a, b, c, d, e, f, g⟩⟩
def okSt (s : St) : Bool := decide (StOk s)
theorem okSt_yes {s : St} (h : StOk s) : okSt s = true := by simp [okSt, h]
theorem okSt_no {s : St} (h : ¬ StOk s) : okSt s = false := by simp [okSt, h]
theorem StOk.ref_bd {s : St} (h : StOk s) (i : Nat) (hi : i < 64) : 0 ≤ s.sp.refs.getD i 0 ∧ s.sp.refs.getD i 0 ≤ 900 := by
  have := h.sp.2.2 i hi
  rw [usOf_at h.sp.1 h.sp.2.1 i hi] at this
  unfold rowOk at this
  simp only at this
  omega
end Go.Proofs.YtjmfefaoenmppaaGreatDoor

namespace Go.Proofs.YtjmfefaoenmppaaGreatDoor
open Go.RowKit

def freeB (x y : Int) : Bool := x == 0 && y == 0
def useB (x y : Int) : Bool := inB x 1 900 && inB y x 900

@[go_sem] theorem eq155 (a b a' b' : Int) (w : World) :
    (Op.equalIn 10000 155 (.agg #[.int .i64 a, .int .i64 b]) (.agg #[.int .i64 a', .int .i64 b'])).run Tryz.prog w = .ok (a == a' && b == b') w := by
  have u3 := Tryz.underlying3
  have a3 := Tryz.isAgg3
  have z3 := Tryz.sizeOf3
  have hS : Tryz.prog.underlying 155 = some (.struct (Tryz.prog.fieldsOf 155)) := by kernel_rfl
  have hp : Tryz.prog.stoodInHeld 155 = false := by kernel_rfl
  rw [show (10000 : Nat) = 9999 + 1 from rfl, run_equalIn_agg w 9999 155 _ _ hS hp]
  simp only [Program.fieldsOf, Tryz.underlying155]
  go_simp
  by_cases h1 : a = a' <;> by_cases h2 : b = b' <;> simp [h1, h2]

theorem i_in (n lo hi : Int) (w : World) : Calls Tryz.prog 56 #[.int .i64 n, .int .i64 lo, .int .i64 hi] w fun e w' => e = .returned (.bool (inB n lo hi)) ∧ w = w' := by
  by_cases h : lo ≤ n ∧ n ≤ hi
  · rw [inB_yes h]
    obtain ⟨h1, h2⟩ := h
    go_enter Tryz.func56, Tryz.ntmps56
    go_wp2
    go_ret
    exact ⟨rfl, rfl⟩
  · rw [inB_no h]
    by_cases h1 : lo ≤ n
    · have h2 : ¬ n ≤ hi := fun e => h ⟨h1, e⟩
      clear h
      go_enter Tryz.func56, Tryz.ntmps56
      go_wp2
      go_ret
      exact ⟨rfl, rfl⟩
    · clear h
      go_enter Tryz.func56, Tryz.ntmps56
      go_wp2
      go_ret
      exact ⟨rfl, rfl⟩
theorem s_in (n lo hi : Int) (w : World) : Calls Tryz.prog 54 #[.int .i64 n, .int .i64 lo, .int .i64 hi] w fun e w' => e = .returned (.bool (inB n lo hi)) ∧ w = w' := by
  by_cases h : lo ≤ n ∧ n ≤ hi
  · rw [inB_yes h]
    obtain ⟨h1, h2⟩ := h
    go_enter Tryz.func54, Tryz.ntmps54
    go_wp2
    go_ret
    exact ⟨rfl, rfl⟩
  · rw [inB_no h]
    by_cases h1 : lo ≤ n
    · have h2 : ¬ n ≤ hi := fun e => h ⟨h1, e⟩
      clear h
      go_enter Tryz.func54, Tryz.ntmps54
      go_wp2
      go_ret
      exact ⟨rfl, rfl⟩
    · clear h
      go_enter Tryz.func54, Tryz.ntmps54
      go_wp2
      go_ret
      exact ⟨rfl, rfl⟩
theorem i_row (n : Int) (w : World) : Calls Tryz.prog 97 #[.int .i64 n] w fun e w' => e = .returned (.bool (inB n 8 63)) ∧ w = w' := by
  go_enter Tryz.func97, Tryz.ntmps97
  go_wp2_with (go_at_call 56; refine (i_in _ _ _ _).mono ?_; rintro e w' ⟨rfl, rfl⟩)
  go_ret
  exact ⟨rfl, rfl⟩
theorem s_row (n : Int) (w : World) : Calls Tryz.prog 91 #[.int .i64 n] w fun e w' => e = .returned (.bool (inB n 8 63)) ∧ w = w' := by
  go_enter Tryz.func91, Tryz.ntmps91
  go_wp2_with (go_at_call 54; refine (s_in _ _ _ _).mono ?_; rintro e w' ⟨rfl, rfl⟩)
  go_ret
  exact ⟨rfl, rfl⟩
theorem i_free (x y : Int) (w : World) : Calls Tryz.prog 133 #[.agg #[.int .i64 x, .int .i64 y]] w fun e w' => e = .returned (.bool (freeB x y)) ∧ w' = w.alloc (.cells #[.int .i64 x, .int .i64 y] 155) := by
  go_enter Tryz.func133, Tryz.ntmps133
  go_wp2
  all_goals go_ret
  all_goals exact ⟨by simp [freeB, *], by simp [*]⟩
theorem i_use (x y : Int) (w : World) : Calls Tryz.prog 134 #[.agg #[.int .i64 x, .int .i64 y]] w fun e w' => e = .returned (.bool (useB x y)) ∧ w' = w.alloc (.cells #[.int .i64 x, .int .i64 y] 155) := by
  by_cases h : inB x 1 900 = true
  · have hu : useB x y = inB y x 900 := by simp [useB, h]
    rw [hu]
    have hI := fun w => i_in x 1 900 w
    rw [h] at hI
    clear h hu
    go_enter Tryz.func134, Tryz.ntmps134
    go_wp2_with (go_at_call 56; first | (with_reducible refine (hI _).mono ?_; rintro e w' ⟨rfl, rfl⟩) | (refine (i_in _ _ _ _).mono ?_; rintro e w' ⟨rfl, rfl⟩))
    go_ret
    exact ⟨rfl, rfl⟩
  · have h' : inB x 1 900 = false := by simpa using h
    have hu : useB x y = false := by simp [useB, h']
    rw [hu]
    have hI := fun w => i_in x 1 900 w
    rw [h'] at hI
    clear h hu h'
    go_enter Tryz.func134, Tryz.ntmps134
    go_wp2_with (go_at_call 56; refine (hI _).mono ?_; rintro e w' ⟨rfl, rfl⟩)
    go_ret
    exact ⟨rfl, rfl⟩
end Go.Proofs.YtjmfefaoenmppaaGreatDoor

namespace Go.Proofs.YtjmfefaoenmppaaGreatDoor
open Go.RowKit

@[go_sem] theorem eq40 (a b c d e a' b' c' d' e' : Int) (w : World) :
    (Op.equalIn 10000 40 (.agg #[.int .i64 a, .int .i64 b, .int .i64 c, .int .i64 d, .int .i64 e]) (.agg #[.int .i64 a', .int .i64 b', .int .i64 c', .int .i64 d', .int .i64 e'])).run Tryz.prog w = .ok (same a b c d e a' b' c' d' e') w := by
  unfold same
  have u3 := Tryz.underlying3
  have a3 := Tryz.isAgg3
  have z3 := Tryz.sizeOf3
  have hS : Tryz.prog.underlying 40 = some (.struct (Tryz.prog.fieldsOf 40)) := by kernel_rfl
  have hp : Tryz.prog.stoodInHeld 40 = false := by kernel_rfl
  rw [show (10000 : Nat) = 9999 + 1 from rfl, run_equalIn_agg w 9999 40 _ _ hS hp]
  simp only [Program.fieldsOf, Tryz.underlying40]
  go_simp
  by_cases h1 : a = a' <;> by_cases h2 : b = b' <;> by_cases h3 : c = c' <;> by_cases h4 : d = d' <;> by_cases h5 : e = e' <;> simp [h1, h2, h3, h4, h5]

theorem spec_hole (a b c d e : Int) (w : World) : Calls Tryz.prog 72 #[.agg #[.int .i64 a, .int .i64 b, .int .i64 c, .int .i64 d, .int .i64 e]] w fun r w' => r = .returned (.bool (isHole a b c d e)) ∧ w' = w.alloc (.cells #[.int .i64 a, .int .i64 b, .int .i64 c, .int .i64 d, .int .i64 e] 40) := by
  go_enter Tryz.func72, Tryz.ntmps72
  go_wp2
  all_goals go_ret
  all_goals exact ⟨by simp [isHole, same, *], by simp [*]⟩
theorem m_hole (a b c d e : Int) (w : World) : Calls Tryz.prog 68 #[.agg #[.int .i64 a, .int .i64 b, .int .i64 c, .int .i64 d, .int .i64 e]] w fun r w' => r = .returned (.bool (isHole a b c d e)) ∧ w' = w.alloc (.cells #[.int .i64 a, .int .i64 b, .int .i64 c, .int .i64 d, .int .i64 e] 40) := by
  go_enter Tryz.func68, Tryz.ntmps68
  go_wp2
  all_goals go_ret
  all_goals exact ⟨by simp [isHole, same, *], by simp [*]⟩
set_option maxHeartbeats 2000000 in
theorem m_ok (a b c d e : Int) (w : World) : Calls Tryz.prog 78 #[.agg #[.int .i64 a, .int .i64 b, .int .i64 c, .int .i64 d, .int .i64 e]] w fun r w' => r = .returned (.bool (isOk a b c d e)) ∧ w' = (w.alloc (.cells #[.int .i64 a, .int .i64 b, .int .i64 c, .int .i64 d, .int .i64 e] 40)).alloc (.cells #[.int .i64 a, .int .i64 b, .int .i64 c, .int .i64 d, .int .i64 e] 40) := by
  have hM := fun w => m_hole a b c d e w
  have h1 := fun w => i_row a w
  have h2 := fun w => i_in b 1 900 w
  have h3 := fun w => i_in c 1 128 w
  have h4 := fun w => i_in d 0 99460728 w
  have h5 := fun w => i_in e 0 2 w
  unfold isOk
  generalize isHole a b c d e = hh at *
  generalize inB a 8 63 = b1 at *
  generalize inB b 1 900 = b2 at *
  generalize inB c 1 128 = b3 at *
  generalize inB d 0 99460728 = b4 at *
  generalize inB e 0 2 = b5 at *
  cases hh with
  | true =>
    go_enter Tryz.func78, Tryz.ntmps78
    go_wp2_with (first | (go_at_call 68; refine (hM _).mono ?_; rintro r w' ⟨rfl, rfl⟩) | (go_at_call 97; refine (h1 _).mono ?_; rintro r w' ⟨rfl, rfl⟩) | (go_at_call 56; (with_reducible refine (h2 _).mono ?_); rintro r w' ⟨rfl, rfl⟩) | (go_at_call 56; (with_reducible refine (h3 _).mono ?_); rintro r w' ⟨rfl, rfl⟩) | (go_at_call 56; (with_reducible refine (h4 _).mono ?_); rintro r w' ⟨rfl, rfl⟩) | (go_at_call 56; (with_reducible refine (h5 _).mono ?_); rintro r w' ⟨rfl, rfl⟩))
    go_ret
    exact ⟨rfl, rfl⟩
  | false =>
    cases b1 with
    | false =>
      go_enter Tryz.func78, Tryz.ntmps78
      go_wp2_with (first | (go_at_call 68; refine (hM _).mono ?_; rintro r w' ⟨rfl, rfl⟩) | (go_at_call 97; refine (h1 _).mono ?_; rintro r w' ⟨rfl, rfl⟩) | (go_at_call 56; (with_reducible refine (h2 _).mono ?_); rintro r w' ⟨rfl, rfl⟩) | (go_at_call 56; (with_reducible refine (h3 _).mono ?_); rintro r w' ⟨rfl, rfl⟩) | (go_at_call 56; (with_reducible refine (h4 _).mono ?_); rintro r w' ⟨rfl, rfl⟩) | (go_at_call 56; (with_reducible refine (h5 _).mono ?_); rintro r w' ⟨rfl, rfl⟩))
      go_ret
      exact ⟨rfl, rfl⟩
    | true =>
      cases b2 with
      | false =>
        go_enter Tryz.func78, Tryz.ntmps78
        go_wp2_with (first | (go_at_call 68; refine (hM _).mono ?_; rintro r w' ⟨rfl, rfl⟩) | (go_at_call 97; refine (h1 _).mono ?_; rintro r w' ⟨rfl, rfl⟩) | (go_at_call 56; (with_reducible refine (h2 _).mono ?_); rintro r w' ⟨rfl, rfl⟩) | (go_at_call 56; (with_reducible refine (h3 _).mono ?_); rintro r w' ⟨rfl, rfl⟩) | (go_at_call 56; (with_reducible refine (h4 _).mono ?_); rintro r w' ⟨rfl, rfl⟩) | (go_at_call 56; (with_reducible refine (h5 _).mono ?_); rintro r w' ⟨rfl, rfl⟩))
        go_ret
        exact ⟨rfl, rfl⟩
      | true =>
        cases b3 with
        | false =>
          go_enter Tryz.func78, Tryz.ntmps78
          go_wp2_with (first | (go_at_call 68; refine (hM _).mono ?_; rintro r w' ⟨rfl, rfl⟩) | (go_at_call 97; refine (h1 _).mono ?_; rintro r w' ⟨rfl, rfl⟩) | (go_at_call 56; (with_reducible refine (h2 _).mono ?_); rintro r w' ⟨rfl, rfl⟩) | (go_at_call 56; (with_reducible refine (h3 _).mono ?_); rintro r w' ⟨rfl, rfl⟩) | (go_at_call 56; (with_reducible refine (h4 _).mono ?_); rintro r w' ⟨rfl, rfl⟩) | (go_at_call 56; (with_reducible refine (h5 _).mono ?_); rintro r w' ⟨rfl, rfl⟩))
          go_ret
          exact ⟨rfl, rfl⟩
        | true =>
          cases b4 with
          | false =>
            go_enter Tryz.func78, Tryz.ntmps78
            go_wp2_with (first | (go_at_call 68; refine (hM _).mono ?_; rintro r w' ⟨rfl, rfl⟩) | (go_at_call 97; refine (h1 _).mono ?_; rintro r w' ⟨rfl, rfl⟩) | (go_at_call 56; (with_reducible refine (h2 _).mono ?_); rintro r w' ⟨rfl, rfl⟩) | (go_at_call 56; (with_reducible refine (h3 _).mono ?_); rintro r w' ⟨rfl, rfl⟩) | (go_at_call 56; (with_reducible refine (h4 _).mono ?_); rintro r w' ⟨rfl, rfl⟩) | (go_at_call 56; (with_reducible refine (h5 _).mono ?_); rintro r w' ⟨rfl, rfl⟩))
            go_ret
            exact ⟨rfl, rfl⟩
          | true =>
            cases b5 with
            | false =>
              go_enter Tryz.func78, Tryz.ntmps78
              go_wp2_with (first | (go_at_call 68; refine (hM _).mono ?_; rintro r w' ⟨rfl, rfl⟩) | (go_at_call 97; refine (h1 _).mono ?_; rintro r w' ⟨rfl, rfl⟩) | (go_at_call 56; (with_reducible refine (h2 _).mono ?_); rintro r w' ⟨rfl, rfl⟩) | (go_at_call 56; (with_reducible refine (h3 _).mono ?_); rintro r w' ⟨rfl, rfl⟩) | (go_at_call 56; (with_reducible refine (h4 _).mono ?_); rintro r w' ⟨rfl, rfl⟩) | (go_at_call 56; (with_reducible refine (h5 _).mono ?_); rintro r w' ⟨rfl, rfl⟩))
              go_ret
              exact ⟨rfl, rfl⟩
            | true =>
              go_enter Tryz.func78, Tryz.ntmps78
              go_wp2_with (first | (go_at_call 68; refine (hM _).mono ?_; rintro r w' ⟨rfl, rfl⟩) | (go_at_call 97; refine (h1 _).mono ?_; rintro r w' ⟨rfl, rfl⟩) | (go_at_call 56; (with_reducible refine (h2 _).mono ?_); rintro r w' ⟨rfl, rfl⟩) | (go_at_call 56; (with_reducible refine (h3 _).mono ?_); rintro r w' ⟨rfl, rfl⟩) | (go_at_call 56; (with_reducible refine (h4 _).mono ?_); rintro r w' ⟨rfl, rfl⟩) | (go_at_call 56; (with_reducible refine (h5 _).mono ?_); rintro r w' ⟨rfl, rfl⟩))
              go_ret
              exact ⟨rfl, rfl⟩

set_option maxHeartbeats 2000000 in
theorem spec_pok (a b c d e : Int) (w : World) : Calls Tryz.prog 71 #[.agg #[.int .i64 a, .int .i64 b, .int .i64 c, .int .i64 d, .int .i64 e]] w fun r w' => r = .returned (.bool (isOk a b c d e)) ∧ w' = (w.alloc (.cells #[.int .i64 a, .int .i64 b, .int .i64 c, .int .i64 d, .int .i64 e] 40)).alloc (.cells #[.int .i64 a, .int .i64 b, .int .i64 c, .int .i64 d, .int .i64 e] 40) := by
  have hM := fun w => spec_hole a b c d e w
  have h1 := fun w => s_row a w
  have h2 := fun w => s_in b 1 900 w
  have h3 := fun w => s_in c 1 128 w
  have h4 := fun w => s_in d 0 99460728 w
  have h5 := fun w => s_in e 0 2 w
  unfold isOk
  generalize isHole a b c d e = hh at *
  generalize inB a 8 63 = b1 at *
  generalize inB b 1 900 = b2 at *
  generalize inB c 1 128 = b3 at *
  generalize inB d 0 99460728 = b4 at *
  generalize inB e 0 2 = b5 at *
  cases hh with
  | true =>
    go_enter Tryz.func71, Tryz.ntmps71
    go_wp2_with (first | (go_at_call 72; refine (hM _).mono ?_; rintro r w' ⟨rfl, rfl⟩) | (go_at_call 91; refine (h1 _).mono ?_; rintro r w' ⟨rfl, rfl⟩) | (go_at_call 54; (with_reducible refine (h2 _).mono ?_); rintro r w' ⟨rfl, rfl⟩) | (go_at_call 54; (with_reducible refine (h3 _).mono ?_); rintro r w' ⟨rfl, rfl⟩) | (go_at_call 54; (with_reducible refine (h4 _).mono ?_); rintro r w' ⟨rfl, rfl⟩) | (go_at_call 54; (with_reducible refine (h5 _).mono ?_); rintro r w' ⟨rfl, rfl⟩))
    go_ret
    exact ⟨rfl, rfl⟩
  | false =>
    cases b1 with
    | false =>
      go_enter Tryz.func71, Tryz.ntmps71
      go_wp2_with (first | (go_at_call 72; refine (hM _).mono ?_; rintro r w' ⟨rfl, rfl⟩) | (go_at_call 91; refine (h1 _).mono ?_; rintro r w' ⟨rfl, rfl⟩) | (go_at_call 54; (with_reducible refine (h2 _).mono ?_); rintro r w' ⟨rfl, rfl⟩) | (go_at_call 54; (with_reducible refine (h3 _).mono ?_); rintro r w' ⟨rfl, rfl⟩) | (go_at_call 54; (with_reducible refine (h4 _).mono ?_); rintro r w' ⟨rfl, rfl⟩) | (go_at_call 54; (with_reducible refine (h5 _).mono ?_); rintro r w' ⟨rfl, rfl⟩))
      go_ret
      exact ⟨rfl, rfl⟩
    | true =>
      cases b2 with
      | false =>
        go_enter Tryz.func71, Tryz.ntmps71
        go_wp2_with (first | (go_at_call 72; refine (hM _).mono ?_; rintro r w' ⟨rfl, rfl⟩) | (go_at_call 91; refine (h1 _).mono ?_; rintro r w' ⟨rfl, rfl⟩) | (go_at_call 54; (with_reducible refine (h2 _).mono ?_); rintro r w' ⟨rfl, rfl⟩) | (go_at_call 54; (with_reducible refine (h3 _).mono ?_); rintro r w' ⟨rfl, rfl⟩) | (go_at_call 54; (with_reducible refine (h4 _).mono ?_); rintro r w' ⟨rfl, rfl⟩) | (go_at_call 54; (with_reducible refine (h5 _).mono ?_); rintro r w' ⟨rfl, rfl⟩))
        go_ret
        exact ⟨rfl, rfl⟩
      | true =>
        cases b3 with
        | false =>
          go_enter Tryz.func71, Tryz.ntmps71
          go_wp2_with (first | (go_at_call 72; refine (hM _).mono ?_; rintro r w' ⟨rfl, rfl⟩) | (go_at_call 91; refine (h1 _).mono ?_; rintro r w' ⟨rfl, rfl⟩) | (go_at_call 54; (with_reducible refine (h2 _).mono ?_); rintro r w' ⟨rfl, rfl⟩) | (go_at_call 54; (with_reducible refine (h3 _).mono ?_); rintro r w' ⟨rfl, rfl⟩) | (go_at_call 54; (with_reducible refine (h4 _).mono ?_); rintro r w' ⟨rfl, rfl⟩) | (go_at_call 54; (with_reducible refine (h5 _).mono ?_); rintro r w' ⟨rfl, rfl⟩))
          go_ret
          exact ⟨rfl, rfl⟩
        | true =>
          cases b4 with
          | false =>
            go_enter Tryz.func71, Tryz.ntmps71
            go_wp2_with (first | (go_at_call 72; refine (hM _).mono ?_; rintro r w' ⟨rfl, rfl⟩) | (go_at_call 91; refine (h1 _).mono ?_; rintro r w' ⟨rfl, rfl⟩) | (go_at_call 54; (with_reducible refine (h2 _).mono ?_); rintro r w' ⟨rfl, rfl⟩) | (go_at_call 54; (with_reducible refine (h3 _).mono ?_); rintro r w' ⟨rfl, rfl⟩) | (go_at_call 54; (with_reducible refine (h4 _).mono ?_); rintro r w' ⟨rfl, rfl⟩) | (go_at_call 54; (with_reducible refine (h5 _).mono ?_); rintro r w' ⟨rfl, rfl⟩))
            go_ret
            exact ⟨rfl, rfl⟩
          | true =>
            cases b5 with
            | false =>
              go_enter Tryz.func71, Tryz.ntmps71
              go_wp2_with (first | (go_at_call 72; refine (hM _).mono ?_; rintro r w' ⟨rfl, rfl⟩) | (go_at_call 91; refine (h1 _).mono ?_; rintro r w' ⟨rfl, rfl⟩) | (go_at_call 54; (with_reducible refine (h2 _).mono ?_); rintro r w' ⟨rfl, rfl⟩) | (go_at_call 54; (with_reducible refine (h3 _).mono ?_); rintro r w' ⟨rfl, rfl⟩) | (go_at_call 54; (with_reducible refine (h4 _).mono ?_); rintro r w' ⟨rfl, rfl⟩) | (go_at_call 54; (with_reducible refine (h5 _).mono ?_); rintro r w' ⟨rfl, rfl⟩))
              go_ret
              exact ⟨rfl, rfl⟩
            | true =>
              go_enter Tryz.func71, Tryz.ntmps71
              go_wp2_with (first | (go_at_call 72; refine (hM _).mono ?_; rintro r w' ⟨rfl, rfl⟩) | (go_at_call 91; refine (h1 _).mono ?_; rintro r w' ⟨rfl, rfl⟩) | (go_at_call 54; (with_reducible refine (h2 _).mono ?_); rintro r w' ⟨rfl, rfl⟩) | (go_at_call 54; (with_reducible refine (h3 _).mono ?_); rintro r w' ⟨rfl, rfl⟩) | (go_at_call 54; (with_reducible refine (h4 _).mono ?_); rintro r w' ⟨rfl, rfl⟩) | (go_at_call 54; (with_reducible refine (h5 _).mono ?_); rintro r w' ⟨rfl, rfl⟩))
              go_ret
              exact ⟨rfl, rfl⟩

theorem to_ptr (a b c d e : Int) (w : World) : Calls Tryz.prog 45 #[.agg #[.int .i64 a, .int .i64 b, .int .i64 c, .int .i64 d, .int .i64 e]] w fun r w' => r = .returned (.agg #[.int .i64 a, .int .i64 b, .int .i64 c, .int .i64 d, .int .i64 e]) ∧ w' = ((w.alloc (.cells #[.int .i64 a, .int .i64 b, .int .i64 c, .int .i64 d, .int .i64 e] 30)).alloc (.cells #[.int .i64 a, .int .i64 b, .int .i64 c, .int .i64 d, .int .i64 e] 40)).alloc (.cells #[.int .i64 a, .int .i64 b, .int .i64 c, .int .i64 d, .int .i64 e] 40) := by
  go_enter Tryz.func45, Tryz.ntmps45
  go_wp2
  refine bodyPost_ret (v := .agg #[.int .i64 a, .int .i64 b, .int .i64 c, .int .i64 d, .int .i64 e]) (by simp [results, Tryz.f45, go_sem]) rfl ⟨rfl, rfl⟩

theorem eq_ptr (a b c d e : Int) (w : World) : Calls Tryz.prog 51 #[.agg #[.int .i64 a, .int .i64 b, .int .i64 c, .int .i64 d, .int .i64 e], .agg #[.int .i64 a, .int .i64 b, .int .i64 c, .int .i64 d, .int .i64 e]] w fun r w' => r = .returned (.bool true) ∧ w' = (w.alloc (.cells #[.int .i64 a, .int .i64 b, .int .i64 c, .int .i64 d, .int .i64 e] 40)).alloc (.cells #[.int .i64 a, .int .i64 b, .int .i64 c, .int .i64 d, .int .i64 e] 40) := by
  go_enter Tryz.func51, Tryz.ntmps51
  go_wp2
  go_ret
  exact ⟨rfl, rfl⟩

end Go.Proofs.YtjmfefaoenmppaaGreatDoor

namespace Go.Proofs.YtjmfefaoenmppaaGreatDoor
open Go.RowKit

def P5.cells (p : P5) : List Value := [.int .i64 p.a, .int .i64 p.b, .int .i64 p.c, .int .i64 p.d, .int .i64 p.e]
def flat (ps : List P5) : List Value := ps.flatMap P5.cells
theorem flat_len (ps : List P5) : (flat ps).length = 5 * ps.length := by
  induction ps with
  | nil => rfl
  | cons p ps ih =>
    show (P5.cells p ++ flat ps).length = _
    rw [List.length_append, ih, List.length_cons]
    show 5 + _ = _
    omega
theorem flat_at : ∀ (ps : List P5) (j k : Nat) (hj : j < ps.length), k < 5 → (flat ps)[5 * j + k]? = (P5.cells ps[j])[k]?
  | p :: ps, 0, k, _, hk => by
    show (P5.cells p ++ flat ps)[5 * 0 + k]? = _
    rw [List.getElem?_append_left (by show 5 * 0 + k < 5; omega)]
    simp
  | p :: ps, j + 1, k, hj, hk => by
    show (P5.cells p ++ flat ps)[5 * (j + 1) + k]? = _
    rw [List.getElem?_append_right (by show 5 ≤ 5 * (j + 1) + k; omega), show 5 * (j + 1) + k - (P5.cells p).length = 5 * j + k by show 5 * (j + 1) + k - 5 = _; omega, flat_at ps j k (by simpa using hj) hk]
    rfl
/-- The pointers ps lie in block b, from its head on. -/
def PtrsAt (W : World) (b : Nat) (ps : List P5) : Prop := b < W.heap.size ∧ W.rangeAt b 0 (flat ps)
theorem PtrsAt.below {W W' : World} {b : Nat} {ps : List P5} (h : PtrsAt W b ps) (hb : Below W.heap.size W W') : PtrsAt W' b ps :=
  ⟨Nat.lt_of_lt_of_le h.1 hb.size, fun j v hv => (hb.cell h.1).trans (h.2 j v hv)⟩
theorem PtrsAt.cell {W : World} {b : Nat} {ps : List P5} (h : PtrsAt W b ps) (j : Nat) (hj : j < ps.length) {a c d e f : Int} (hp : ps[j] = ⟨a, c, d, e, f⟩) :
    W.cell? ⟨b, j * 5, none⟩ = some (.int .i64 a) ∧ W.cell? ⟨b, j * 5 + 1, none⟩ = some (.int .i64 c) ∧ W.cell? ⟨b, j * 5 + 2, none⟩ = some (.int .i64 d) ∧ W.cell? ⟨b, j * 5 + 3, none⟩ = some (.int .i64 e) ∧ W.cell? ⟨b, j * 5 + 4, none⟩ = some (.int .i64 f) := by
  have g : ∀ k v, k < 5 → (P5.cells ps[j])[k]? = some v → W.cell? ⟨b, j * 5 + k, none⟩ = some v := fun k v hk hv => by
    have := h.2 (5 * j + k) v ((flat_at ps j k hj hk).trans hv)
    rwa [Nat.zero_add, Nat.mul_comm] at this
  rw [hp] at g
  exact ⟨g 0 _ (by decide) rfl, g 1 _ (by decide) rfl, g 2 _ (by decide) rfl, g 3 _ (by decide) rfl, g 4 _ (by decide) rfl⟩

theorem Tryz.info40 : (Tryz.prog.info? 40).map (fun i => (i.zero, i.size, i.bytes)) = some (some (.agg #[.int .i64 0, .int .i64 0, .int .i64 0, .int .i64 0, .int .i64 0]), 5, 40) := by kernel_rfl
def P5z : List Value := [.int .i64 0, .int .i64 0, .int .i64 0, .int .i64 0, .int .i64 0]
def zeros (n : Nat) : List Value := (List.replicate n P5z).flatten
theorem zeros_succ (n : Nat) : zeros (n + 1) = P5z ++ zeros n := by simp [zeros, List.replicate_succ]
theorem zeros_len (n : Nat) : (zeros n).length = 5 * n := by
  induction n with
  | zero => rfl
  | succ n ih =>
    rw [zeros_succ, List.length_append, ih]
    show 5 + _ = _
    omega
theorem made_ptrs (n : Nat) : (madeCells (Value.cells (.agg #[.int .i64 0, .int .i64 0, .int .i64 0, .int .i64 0, .int .i64 0])) (n * 5)).toList = zeros n := by
  apply List.ext_getElem?
  intro i
  have hz : ∀ m k : Nat, k < 5 * m → (zeros m)[k]? = some (.int .i64 0) := by
    intro m
    induction m with
    | zero => intro k hk; omega
    | succ m ih =>
      intro k hk
      rw [zeros_succ]
      by_cases h : k < 5
      · rw [List.getElem?_append_left (by show k < 5; exact h)]
        rcases (show k = 0 ∨ k = 1 ∨ k = 2 ∨ k = 3 ∨ k = 4 by omega) with rfl | rfl | rfl | rfl | rfl <;> rfl
      · rw [List.getElem?_append_right (by show 5 ≤ k; omega)]
        exact ih _ (by show k - 5 < 5 * m; omega)
  by_cases h : i < n * 5
  · rw [hz n i (by omega)]
    have hm : i % 5 < 5 := Nat.mod_lt _ (by decide)
    have : ∀ k, k < 5 → (#[.int .i64 0, .int .i64 0, .int .i64 0, .int .i64 0, .int .i64 0] : Array Value)[k]? = some (.int .i64 0) := by
      intro k hk
      rcases (show k = 0 ∨ k = 1 ∨ k = 2 ∨ k = 3 ∨ k = 4 by omega) with rfl | rfl | rfl | rfl | rfl <;> rfl
    have h5 := this _ hm
    simp [madeCells, Value.cells, h]
    rcases (show i % 5 = 0 ∨ i % 5 = 1 ∨ i % 5 = 2 ∨ i % 5 = 3 ∨ i % 5 = 4 by omega) with e | e | e | e | e <;> simp [e]
  · rw [List.getElem?_eq_none (by simp [madeCells]; omega), List.getElem?_eq_none (by rw [zeros_len]; omega)]
theorem set_five (L R : List Value) (n : Nat) (h : L.length = n) (z0 z1 z2 z3 z4 a c d e f : Value) :
    (((((L ++ z0 :: z1 :: z2 :: z3 :: z4 :: R).set n a).set (n + 1) c).set (n + 2) d).set (n + 3) e).set (n + 4) f = L ++ a :: c :: d :: e :: f :: R := by
  subst h
  simp [List.set_append_right]

/-- The slice address A leads to the pointers ps, five cells each. -/
def PArg (W : World) (A : Option Addr) (ps : List P5) : Prop :=
  0 < ps.length → ∃ b off, A = some ⟨b, off, none⟩ ∧ b < W.heap.size ∧ ∀ (j : Nat) (hj : j < ps.length) (k : Nat) (v : Value), k < 5 → (P5.cells ps[j])[k]? = some v → W.cell? ⟨b, off + (j * 5 + k), none⟩ = some v
theorem PArg.below {W W' : World} {A : Option Addr} {ps : List P5} (h : PArg W A ps) (hb : Below W.heap.size W W') : PArg W' A ps := by
  intro h0
  obtain ⟨b, off, rfl, hlt, hc⟩ := h h0
  exact ⟨b, off, rfl, Nat.lt_of_lt_of_le hlt hb.size, fun j hj k v hk hv => (hb.cell (p := ⟨b, off + (j * 5 + k), none⟩) hlt).trans (hc j hj k v hk hv)⟩
theorem flat_more (ps : List P5) (j : Nat) (h : j < ps.length) : flat (ps.take (j + 1)) = flat (ps.take j) ++ P5.cells ps[j] := by
  unfold flat
  rw [List.take_succ_eq_append_getElem h, List.flatMap_append]
  simp
theorem PtrsAt.of_own {W : World} {base g cap : Nat} {ps : List P5} (h : W.ownsRow base 40 5 (.slice (some ⟨g, 0, none⟩) ps.length cap) ps.length (flat ps)) : PtrsAt W g ps := by
  refine ⟨(h.lt g rfl).2, fun j v hv => ?_⟩
  have hj : j < (flat ps).length := (List.getElem?_eq_some_iff.1 hv).1
  rw [flat_len] at hj
  rw [Nat.zero_add, h.cellAt j (by omega), hv]

theorem sz_ptrs (A : Option Addr) (cap n : Nat) (w : World) (hn : n ≤ maxLen) :
    Calls Tryz.prog 39 #[.slice A n cap, .int .i64 1048576] w fun e w' => e = .returned (.int .i64 (if (1048576 : Int) < n then -1 else 1048576 - n)) ∧ w = w' := by
  unfold maxLen at hn
  by_cases h : (1048576 : Int) < (n : Int)
  · rw [if_pos h]
    have h2 : (1048576 : Int) - (n : Int) < 0 := by omega
    go_enter Tryz.func39, Tryz.ntmps39
    go_wp2
    go_ret
    exact ⟨rfl, rfl⟩
  · rw [if_neg h]
    have h2 : ¬ (1048576 : Int) - (n : Int) < 0 := by omega
    go_enter Tryz.func39, Tryz.ntmps39
    go_wp2
    go_ret
    exact ⟨rfl, rfl⟩

theorem own_set5 {W : World} {base g n cap k : Nat} {ps : List P5} {R : List Value} (h : W.ownsRow base 40 5 (.slice (some ⟨g, 0, none⟩) n cap) n (flat (ps.take k) ++ P5z ++ R)) (hk : k < ps.length) {a c d e f : Int} (hp : ps[k] = ⟨a, c, d, e, f⟩) :
    (((((W.setCell ⟨g, k * 5, none⟩ (.int .i64 a)).setCell ⟨g, k * 5 + 1, none⟩ (.int .i64 c)).setCell ⟨g, k * 5 + 2, none⟩ (.int .i64 d)).setCell ⟨g, k * 5 + 3, none⟩ (.int .i64 e)).setCell ⟨g, k * 5 + 4, none⟩ (.int .i64 f)).ownsRow base 40 5 (.slice (some ⟨g, 0, none⟩) n cap) n (flat (ps.take (k + 1)) ++ R) := by
  have h5 := ((((((h.stored (k * 5) (.int .i64 a)).1).stored (k * 5 + 1) (.int .i64 c)).1).stored (k * 5 + 2) (.int .i64 d)).1.stored (k * 5 + 3) (.int .i64 e)).1.stored (k * 5 + 4) (.int .i64 f)
  have h6 := h5.1
  have hl : (flat (ps.take k)).length = k * 5 := by rw [flat_len, List.length_take]; omega
  rw [show flat (ps.take k) ++ P5z ++ R = flat (ps.take k) ++ (.int .i64 0) :: (.int .i64 0) :: (.int .i64 0) :: (.int .i64 0) :: (.int .i64 0) :: R by simp [P5z], set_five _ R (k * 5) hl] at h6
  rw [flat_more ps k hk, hp]
  simpa [P5.cells] using h6
theorem own_cells5 {W : World} {base g n cap k : Nat} {ps : List P5} {R : List Value} (h : W.ownsRow base 40 5 (.slice (some ⟨g, 0, none⟩) n cap) n (flat (ps.take k) ++ P5z ++ R)) (hk : k < ps.length) (hn : k < n) :
    W.cell? ⟨g, k * 5, none⟩ = some (.int .i64 0) ∧ W.cell? ⟨g, k * 5 + 1, none⟩ = some (.int .i64 0) ∧ W.cell? ⟨g, k * 5 + 2, none⟩ = some (.int .i64 0) ∧ W.cell? ⟨g, k * 5 + 3, none⟩ = some (.int .i64 0) ∧ W.cell? ⟨g, k * 5 + 4, none⟩ = some (.int .i64 0) := by
  have hl : (flat (ps.take k)).length = k * 5 := by rw [flat_len, List.length_take]; omega
  have g0 : ∀ i, i < 5 → W.cell? ⟨g, k * 5 + i, none⟩ = some (.int .i64 0) := fun i hi => by
    rw [h.cellAt (k * 5 + i) (by omega), List.append_assoc, List.getElem?_append_right (by omega), hl, show k * 5 + i - k * 5 = i by omega]
    rcases (show i = 0 ∨ i = 1 ∨ i = 2 ∨ i = 3 ∨ i = 4 by omega) with rfl | rfl | rfl | rfl | rfl <;> rfl
  exact ⟨g0 0 (by decide), g0 1 (by decide), g0 2 (by decide), g0 3 (by decide), g0 4 (by decide)⟩

def ToPs (ps : List P5) (w : World) (e : Ending) (w' : World) : Prop :=
  ∃ g, e = .returned (.slice (some ⟨g, 0, none⟩) ps.length ps.length) ∧ w'.ownsRow w.heap.size 40 5 (.slice (some ⟨g, 0, none⟩) ps.length ps.length) ps.length (flat ps) ∧ Below w.heap.size w w'

set_option maxRecDepth 100000 in
set_option maxHeartbeats 2000000 in
theorem to_ptrs (A : Option Addr) (cap : Nat) (ps : List P5) (w : World) (hn : ps.length ≤ 1048576) (hA : PArg w A ps) :
    Calls Tryz.prog 44 #[.slice A ps.length cap] w (ToPs ps w) := by
  obtain ⟨i0, hi, hz0, hz1, hz2⟩ := info_parts Tryz.info40
  go_enter Tryz.func44, Tryz.ntmps44
  go_wp2_with (refine wpList_make_full _ rfl _ _ 36 rfl w.heap.size 40 i0 (.agg #[.int .i64 0, .int .i64 0, .int .i64 0, .int .i64 0, .int .i64 0]) 5 Tryz.underlying36 hi hz0 hz1 _ _ _ _ ps.length rfl rfl rfl rfl (by rw [hz2]; omega) (by unfold maxLen; omega) (Nat.le_refl _) ?_; intro w1 hown hgrow; rw [made_ptrs] at hown)
  go_loopw [4] (fun i wr => ∃ k : Nat, k ≤ ps.length ∧ i = .int .i64 k ∧ wr.ownsRow w.heap.size 40 5 (.slice (some ⟨w.heap.size, 0, none⟩) ps.length ps.length) ps.length (flat (ps.take k) ++ zeros (ps.length - k)) ∧ Below w.heap.size w wr) (fun i _ => ps.length - (intOf i).toNat)
  case atStart => exact ⟨0, Nat.zero_le _, rfl, hown, (Below.refl _ _).grown hgrow (Nat.le_refl _) (fun k e => by cases e)⟩
  case round =>
    obtain ⟨k, hk, rfl, ho, hb⟩ := hrel
    clear hown hgrow
    by_cases hlt : k < ps.length
    · obtain ⟨b, off, rfl, hlb, hc⟩ := (hA.below hb) (by omega)
      obtain ⟨a, c, d, e, f, hp⟩ : ∃ a c d e f, ps[k] = ⟨a, c, d, e, f⟩ := ⟨_, _, _, _, _, rfl⟩
      have hck := hc k hlt
      rw [hp] at hck
      have y0 : wr.cell? ⟨b, off + k * 5, none⟩ = some (.int .i64 a) := hck 0 _ (by decide) rfl
      have y1 : wr.cell? ⟨b, off + k * 5 + 1, none⟩ = some (.int .i64 c) := hck 1 _ (by decide) rfl
      have y2 : wr.cell? ⟨b, off + k * 5 + 2, none⟩ = some (.int .i64 d) := hck 2 _ (by decide) rfl
      have y3 : wr.cell? ⟨b, off + k * 5 + 3, none⟩ = some (.int .i64 e) := hck 3 _ (by decide) rfl
      have y4 : wr.cell? ⟨b, off + k * 5 + 4, none⟩ = some (.int .i64 f) := hck 4 _ (by decide) rfl
      obtain ⟨m, hm⟩ : ∃ m, ps.length - k = m + 1 := ⟨ps.length - k - 1, by omega⟩
      have hm1 : ps.length - (k + 1) = m := by omega
      rw [hm, zeros_succ, ← List.append_assoc] at ho
      have hT : ∀ W, Calls Tryz.prog 45 #[.agg #[.int .i64 a, .int .i64 c, .int .i64 d, .int .i64 e, .int .i64 f]] W fun r w' => r = .returned (.agg #[.int .i64 a, .int .i64 c, .int .i64 d, .int .i64 e, .int .i64 f]) ∧ Below W.heap.size W w' := fun W => (to_ptr a c d e f W).mono fun r w' ⟨h1, h2⟩ => ⟨h1, h2 ▸ bel_new (bel_new (bel_new (Below.refl _ _) _) _) _⟩
      have HM := Lib.hid hm1
      have HP := Lib.hid hp
      clear hc hck hm hm1 hp hA
      go_wp2_with (go_at_call 45; refine (hT _).mono ?_; rintro r w2 ⟨rfl, hb2⟩; have ho2 := own_bel ho hb2; obtain ⟨z0, z1, z2, z3, z4⟩ := own_cells5 ho2 hlt hlt; have f0 := ho2.frozenAt (k * 5); have f1 := ho2.frozenAt (k * 5 + 1); have f2 := ho2.frozenAt (k * 5 + 2); have f3 := ho2.frozenAt (k * 5 + 3); have f4 := ho2.frozenAt (k * 5 + 4))
      have B5 := (((((bel_then hb hb2).setCell (p := ⟨w.heap.size, k * 5, none⟩) (Nat.le_refl _) (.int .i64 a)).setCell (p := ⟨w.heap.size, k * 5 + 1, none⟩) (Nat.le_refl _) (.int .i64 c)).setCell (p := ⟨w.heap.size, k * 5 + 2, none⟩) (Nat.le_refl _) (.int .i64 d)).setCell (p := ⟨w.heap.size, k * 5 + 3, none⟩) (Nat.le_refl _) (.int .i64 e)).setCell (p := ⟨w.heap.size, k * 5 + 4, none⟩) (Nat.le_refl _) (.int .i64 f)
      go_roundw
      case rel => exact ⟨k + 1, by omega, by go_num, by rw [HM.out]; exact own_set5 ho2 hlt HP.out, B5⟩
      case measure => simp [intOf]; omega
    · have hke : k = ps.length := by omega
      subst hke
      rw [List.take_length, Nat.sub_self] at ho
      rw [show zeros 0 = [] from rfl, List.append_nil] at ho
      go_wp2
      go_ret
      exact ⟨_, rfl, ho, hb⟩

/-- The cells of two pointers, kept. -/
def TwoPt (w : World) (g h x : Nat) (a c d e f : Int) (W : World) : Prop :=
  W.cell? ⟨g, x, none⟩ = some (.int .i64 a) ∧ W.cell? ⟨g, x + 1, none⟩ = some (.int .i64 c) ∧ W.cell? ⟨g, x + 2, none⟩ = some (.int .i64 d) ∧ W.cell? ⟨g, x + 3, none⟩ = some (.int .i64 e) ∧ W.cell? ⟨g, x + 4, none⟩ = some (.int .i64 f) ∧ W.cell? ⟨h, x, none⟩ = some (.int .i64 a) ∧ W.cell? ⟨h, x + 1, none⟩ = some (.int .i64 c) ∧ W.cell? ⟨h, x + 2, none⟩ = some (.int .i64 d) ∧ W.cell? ⟨h, x + 3, none⟩ = some (.int .i64 e) ∧ W.cell? ⟨h, x + 4, none⟩ = some (.int .i64 f) ∧ g < W.heap.size ∧ h < W.heap.size ∧ Below w.heap.size w W
theorem TwoPt.next {w W W' : World} {g h x : Nat} {a c d e f : Int} (k : TwoPt w g h x a c d e f W) (hb : Below W.heap.size W W') : TwoPt w g h x a c d e f W' := by
  obtain ⟨a0, a1, a2, a3, a4, b0, b1, b2, b3, b4, hg, hh, hw⟩ := k
  exact ⟨(hb.cell hg).trans a0, (hb.cell hg).trans a1, (hb.cell hg).trans a2, (hb.cell hg).trans a3, (hb.cell hg).trans a4, (hb.cell hh).trans b0, (hb.cell hh).trans b1, (hb.cell hh).trans b2, (hb.cell hh).trans b3, (hb.cell hh).trans b4, Nat.lt_of_lt_of_le hg hb.size, Nat.lt_of_lt_of_le hh hb.size, bel_then hw hb⟩
theorem TwoPt.drew {w W : World} {g h x : Nat} {a c d e f : Int} (k : TwoPt w g h x a c d e f W) : TwoPt w g h x a c d e f W.drew := by
  obtain ⟨a0, a1, a2, a3, a4, b0, b1, b2, b3, b4, hg, hh, hw⟩ := k
  exact ⟨a0, a1, a2, a3, a4, b0, b1, b2, b3, b4, hg, hh, hw.drew⟩

set_option maxRecDepth 100000 in
set_option maxHeartbeats 2000000 in
theorem eq_ptrs (g h cg ch : Nat) (ps : List P5) (w : World) (hn : ps.length ≤ 1048576) (hG : PtrsAt w g ps) (hH : PtrsAt w h ps) :
    Calls Tryz.prog 18 #[.slice (some ⟨g, 0, none⟩) ps.length cg, .slice (some ⟨h, 0, none⟩) ps.length ch] w fun e w' => e = .returned (.bool true) ∧ Below w.heap.size w w' := by
  have hq0 : ((ps.length : Int) != (ps.length : Int)) = false := by simp
  go_enter Tryz.func18, Tryz.ntmps18
  go_wp2
  go_loopw [5] (fun i wr => ∃ k : Nat, k ≤ ps.length ∧ i = .int .i64 k ∧ PtrsAt wr g ps ∧ PtrsAt wr h ps ∧ Below w.heap.size w wr) (fun i _ => ps.length - (intOf i).toNat)
  case atStart => exact ⟨0, Nat.zero_le _, rfl, hG, hH, Below.refl _ _⟩
  case round =>
    obtain ⟨k, hk, rfl, hg, hh, hb⟩ := hrel
    clear hG hH
    by_cases hlt : k < ps.length
    · obtain ⟨a, c, d, e, f, hp⟩ : ∃ a c d e f, ps[k] = ⟨a, c, d, e, f⟩ := ⟨_, _, _, _, _, rfl⟩
      have q1 := hg.cell k hlt hp
      have q2 := hh.cell k hlt hp
      obtain ⟨y0, y1, y2, y3, y4⟩ := id q1
      obtain ⟨z0, z1, z2, z3, z4⟩ := id q2
      clear hp
      have K0 : TwoPt wr g h (k * 5) a c d e f wr := ⟨y0, y1, y2, y3, y4, z0, z1, z2, z3, z4, hg.1, hh.1, Below.refl _ _⟩
      have K1 := K0.drew
      have hE : ∀ W, Calls Tryz.prog 51 #[.agg #[.int .i64 a, .int .i64 c, .int .i64 d, .int .i64 e, .int .i64 f], .agg #[.int .i64 a, .int .i64 c, .int .i64 d, .int .i64 e, .int .i64 f]] W fun r w' => r = .returned (.bool true) ∧ Below W.heap.size W w' := fun W => (eq_ptr a c d e f W).mono fun r w' ⟨h1, h2⟩ => ⟨h1, h2 ▸ bel_new (bel_new (Below.refl _ _) _) _⟩
      go_wp2_with fail
      go_region_held3 (fun W => W.cell? ⟨g, k * 5, none⟩ = some (.int .i64 a) ∧ W.cell? ⟨g, k * 5 + 1, none⟩ = some (.int .i64 c) ∧ W.cell? ⟨g, k * 5 + 2, none⟩ = some (.int .i64 d) ∧ W.cell? ⟨g, k * 5 + 3, none⟩ = some (.int .i64 e) ∧ W.cell? ⟨g, k * 5 + 4, none⟩ = some (.int .i64 f) ∧ W.cell? ⟨h, k * 5, none⟩ = some (.int .i64 a) ∧ W.cell? ⟨h, k * 5 + 1, none⟩ = some (.int .i64 c) ∧ W.cell? ⟨h, k * 5 + 2, none⟩ = some (.int .i64 d) ∧ W.cell? ⟨h, k * 5 + 3, none⟩ = some (.int .i64 e) ∧ W.cell? ⟨h, k * 5 + 4, none⟩ = some (.int .i64 f) ∧ g < W.heap.size ∧ h < W.heap.size ∧ Below wr.heap.size wr W)
        ((show TwoPt wr g h (k * 5) a c d e f _; with_reducible (first | exact K0 | exact K1 | exact hk2)))
        (first | (go_at_call 51; refine (hE _).mono ?_; rintro r w2 ⟨rfl, hb2⟩; have hk2 := K1.next hb2))
      have W2 : Below wr.heap.size wr w2 := hk2.2.2.2.2.2.2.2.2.2.2.2.2
      go_wp2_with fail
      go_roundw
      case rel => exact ⟨k + 1, by omega, by go_num, hg.below W2, hh.below W2, bel_then hb W2⟩
      case measure => simp [intOf]; omega
    · have hke : k = ps.length := by omega
      subst hke
      go_wp2
      go_ret
      exact ⟨rfl, hb⟩
def marksV (m : Nat) : List Value := (List.range m).map fun i : Nat => .int .i64 ((i : Int) + 1)
theorem marksV_len (m : Nat) : (marksV m).length = m := by simp [marksV]
theorem marksV_five (j : Nat) : marksV (5 * (j + 1)) = marksV (5 * j) ++ [.int .i64 (1 + 5 * (j : Int)), .int .i64 (1 + 5 * (j : Int) + 1), .int .i64 (1 + 5 * (j : Int) + 1 + 1), .int .i64 (1 + 5 * (j : Int) + 1 + 1 + 1), .int .i64 (1 + 5 * (j : Int) + 1 + 1 + 1 + 1)] := by
  unfold marksV
  rw [show 5 * (j + 1) = 5 * j + 1 + 1 + 1 + 1 + 1 by omega]
  simp only [List.range_succ, List.map_append, List.map_cons, List.map_nil, List.append_assoc, List.cons_append, List.nil_append]
  congr 2
  · congr 1; omega
  congr 1
  · congr 1; omega
  congr 1
  · congr 1; omega
  congr 1
  · congr 1; omega
  congr 1
  congr 1; omega
theorem marksV_at (n j k : Nat) (hj : j < n) (hk : k < 5) : (marksV (5 * n))[j * 5 + k]? = some (.int .i64 (1 + 5 * (j : Int) + k)) := by
  unfold marksV
  rw [List.getElem?_map, List.getElem?_range (by omega)]
  simp only [Option.map_some, Option.some.injEq, Value.int.injEq, true_and]
  omega

set_option maxRecDepth 100000 in
set_option maxHeartbeats 4000000 in
theorem mark_ptrs (t : TypeId) (base g c n : Nat) (xs : List Value) (w : World) (hn : n ≤ 1048576) (ho : w.ownsRow base t 5 (.slice (some ⟨g, 0, none⟩) n c) n xs) :
    Calls Tryz.prog 20 #[.slice (some ⟨g, 0, none⟩) n c, .int .i64 1] w fun e w' => e = .returned (.int .i64 (1 + 5 * (n : Int))) ∧ w'.ownsRow base t 5 (.slice (some ⟨g, 0, none⟩) n c) n (marksV (5 * n)) ∧ w.grownBy w' (some g) := by
  have hxl : xs.length = 5 * n := by have := ho.1; omega
  go_enter Tryz.func20, Tryz.ntmps20
  go_wp2
  go_loopw [1, 5] (fun kv i wr => ∃ j : Nat, j ≤ n ∧ i = .int .i64 j ∧ kv = .int .i64 (1 + 5 * (j : Int)) ∧ wr.ownsRow base t 5 (.slice (some ⟨g, 0, none⟩) n c) n (marksV (5 * j) ++ xs.drop (5 * j)) ∧ w.grownBy wr (some g)) (fun _ i _ => n - (intOf i).toNat)
  case atStart => exact ⟨0, Nat.zero_le _, rfl, rfl, by simpa [marksV] using ho, World.grownBy.refl w (some g)⟩
  case round =>
    obtain ⟨j, hj, rfl, rfl, hr, hgr⟩ := hrel
    clear ho
    by_cases hlt : j < n
    · have hlt' : (j : Int) < (n : Int) := by omega
      obtain ⟨x0, x1, x2, x3, x4, R, hR, hd⟩ : ∃ x0 x1 x2 x3 x4 R, xs.drop (5 * j) = x0 :: x1 :: x2 :: x3 :: x4 :: R ∧ R = xs.drop (5 * (j + 1)) := by
        have hl : (xs.drop (5 * j)).length = 5 * n - 5 * j := by rw [List.length_drop, hxl]
        match h : xs.drop (5 * j) with
        | x0 :: x1 :: x2 :: x3 :: x4 :: R =>
          refine ⟨x0, x1, x2, x3, x4, R, rfl, ?_⟩
          rw [show 5 * (j + 1) = 5 * j + 5 by omega, ← List.drop_drop, h]
          rfl
        | [] => rw [h] at hl; simp at hl; omega
        | [_] => rw [h] at hl; simp at hl; omega
        | [_, _] => rw [h] at hl; simp at hl; omega
        | [_, _, _] => rw [h] at hl; simp at hl; omega
        | [_, _, _, _] => rw [h] at hl; simp at hl; omega
      rw [hR] at hr
      have hml : (marksV (5 * j)).length = j * 5 := by rw [marksV_len]; omega
      have cell : ∀ i v, i < 5 → (x0 :: x1 :: x2 :: x3 :: x4 :: R)[i]? = some v → wr.cell? ⟨g, j * 5 + i, none⟩ = some v := fun i v hi hv => by
        rw [hr.cellAt (j * 5 + i) (by omega), List.getElem?_append_right (by omega), hml, show j * 5 + i - j * 5 = i by omega, hv]
      have y0 : wr.cell? ⟨g, j * 5, none⟩ = some x0 := cell 0 _ (by decide) rfl
      have y1 : wr.cell? ⟨g, j * 5 + 1, none⟩ = some x1 := cell 1 _ (by decide) rfl
      have y2 : wr.cell? ⟨g, j * 5 + 2, none⟩ = some x2 := cell 2 _ (by decide) rfl
      have y3 : wr.cell? ⟨g, j * 5 + 3, none⟩ = some x3 := cell 3 _ (by decide) rfl
      have y4 : wr.cell? ⟨g, j * 5 + 4, none⟩ = some x4 := cell 4 _ (by decide) rfl
      have f0 := hr.frozenAt (j * 5)
      have f1 := hr.frozenAt (j * 5 + 1)
      have f2 := hr.frozenAt (j * 5 + 2)
      have f3 := hr.frozenAt (j * 5 + 3)
      have f4 := hr.frozenAt (j * 5 + 4)
      have H5 := Lib.hid (marksV_five j)
      have HD := Lib.hid hd
      clear hR hd cell
      go_wp2_with fail
      have S0 := hr.stored (j * 5) (.int .i64 (1 + 5 * (j : Int)))
      have S1 := S0.1.stored (j * 5 + 1) (.int .i64 (1 + 5 * (j : Int) + 1))
      have S2 := S1.1.stored (j * 5 + 2) (.int .i64 (1 + 5 * (j : Int) + 1 + 1))
      have S3 := S2.1.stored (j * 5 + 3) (.int .i64 (1 + 5 * (j : Int) + 1 + 1 + 1))
      have S4 := S3.1.stored (j * 5 + 4) (.int .i64 (1 + 5 * (j : Int) + 1 + 1 + 1 + 1))
      have HG := ((((hgr.trans S0.2).trans S1.2).trans S2.2).trans S3.2).trans S4.2
      have R5 := S4.1
      rw [set_five _ R (j * 5) hml] at R5
      go_roundw
      case rel => exact ⟨j + 1, by omega, by go_num, by go_num, by rw [H5.out, ← HD.out, List.append_assoc]; exact R5, HG⟩
      case measure => simp [intOf]; omega
    · obtain rfl : j = n := by omega
      rw [List.drop_of_length_le (by omega), List.append_nil] at hr
      go_wp2
      go_ret
      exact ⟨rfl, hr, hgr⟩

end Go.Proofs.YtjmfefaoenmppaaGreatDoor
