/-
  A bundle of rows of the call's own, no two in one block.
  Rows of pointers, of no or more: their weight, whether two are equal, the marks of a law.
  Space in memory: the marks of a law, from any number on.
  Rows of texts: their weight, a copy, whether two are equal, the marks of a law.
  A store in memory: where its rows lie, its weight, a copy, whether two are equal.
  A law's copy of a store; its marks.
  A store that came in.
  How a law's arguments are opened: rows of texts and of pointers, a store.
  How a pointer that a law is called with is opened.
  takeAway: references are taken from those of each row, one by one.
  Copies of rows: of texts, of numbers, of pointers.
  A row of the call's own is lengthened by some cells that lie there: where the row is then.
  A map from the numbers of rows to what is used of them, as a list of sixty-four.
  The same at the operation.
-/
import Derived.Test.YtjmfefaoenmppaaGreatDoorKB
import Derived.Test.YtjmfefaoenmppaaGreatDoorProg
import Derived.Deep.AppendLies
import Derived.WalkSpells
import Derived.Lib.ItoaNum
import Derived.Laws.BytesArg
import Derived.Deep.RegionWith
import Derived.Deep.RegionHeld3
import Derived.WalkSmall
import Derived.Deep.Slices
import Derived.SliceStrings
import Derived.ChangeKeysEq
import Derived.Deep.RegionHeldLaw
import Derived.Maps.OwnSet
import Derived.WalkArith
import Derived.Maps.RangeWalk
set_option linter.unusedVariables false

namespace Go.Proofs.YtjmfefaoenmppaaGreatDoor
open Go.RowKit

structure Rw where
  t : TypeId
  sz : Nat
  n : Nat
  v : Value
  xs : List Value
def Rw.own (w : World) (base top : Nat) (r : Rw) : Prop := w.ownsRow base r.t r.sz r.v r.n r.xs ∧ ∀ k, r.v.ownBlock = some k → k < top
def Rw.apart (r s : Rw) : Prop := ∀ k, r.v.ownBlock = some k → s.v.ownBlock ≠ some k
/-- The rows of the bundle lie in blocks from base to top, each in one of its own. -/
def Own (w : World) (base top : Nat) (L : List Rw) : Prop := (∀ r ∈ L, Rw.own w base top r) ∧ L.Pairwise Rw.apart
theorem Rw.apart.symm {r s : Rw} (h : Rw.apart r s) : Rw.apart s r := fun k h1 h2 => h k h2 h1
theorem Own.below {w w' : World} {base top : Nat} {L : List Rw} (h : Own w base top L) (hb : Below w.heap.size w w') : Own w' base top L := ⟨fun r hr => ⟨own_bel (h.1 r hr).1 hb, (h.1 r hr).2⟩, h.2⟩
theorem Own.base {w : World} {base base' top : Nat} {L : List Rw} (h : Own w base top L) (hb : base' ≤ base) : Own w base' top L := ⟨fun r hr => ⟨own_base (h.1 r hr).1 hb, (h.1 r hr).2⟩, h.2⟩
theorem Own.wide {w : World} {base top top' : Nat} {L : List Rw} (h : Own w base top L) (hb : top ≤ top') : Own w base top' L := ⟨fun r hr => ⟨(h.1 r hr).1, fun k hk => Nat.lt_of_lt_of_le ((h.1 r hr).2 k hk) hb⟩, h.2⟩
theorem Own.only {w w' : World} {lo hi base top : Nat} {L : List Rw} (h : Own w base top L) (hg : Only lo hi w w') (hb : hi ≤ base ∨ top ≤ lo) : Own w' base top L :=
  ⟨fun r hr => ⟨own_only (h.1 r hr).1 hg (fun k hk => by have := ((h.1 r hr).1.lt k hk).1; have := (h.1 r hr).2 k hk; omega), (h.1 r hr).2⟩, h.2⟩
theorem Own.set {w : World} {base top : Nat} {L : List Rw} (h : Own w base top L) {p : Addr} (hp : p.block < base) (u : Value) : Own (w.setCell p u) base top L := ⟨fun r hr => ⟨own_set (h.1 r hr).1 hp u, (h.1 r hr).2⟩, h.2⟩
theorem Own.drew {w : World} {base top : Nat} {L : List Rw} (h : Own w base top L) : Own w.drew base top L := h
/-- .. with the heap's size for its top. -/
theorem Own.at_top {w : World} {base top : Nat} {L : List Rw} (h : Own w base top L) : Own w base w.heap.size L := ⟨fun r hr => ⟨(h.1 r hr).1, fun k hk => ((h.1 r hr).1.lt k hk).2⟩, h.2⟩
theorem Own.nil (w : World) (base top : Nat) : Own w base top [] := ⟨fun _ h => by simp at h, .nil⟩
theorem Own.one {w : World} {base : Nat} {t : TypeId} {sz n : Nat} {v : Value} {xs : List Value} (h : w.ownsRow base t sz v n xs) : Own w base w.heap.size [⟨t, sz, n, v, xs⟩] :=
  ⟨fun r hr => by rw [List.mem_singleton] at hr; subst hr; exact ⟨h, fun k hk => (h.lt k hk).2⟩, List.pairwise_singleton _ _⟩
/-- One more row, made behind the others. -/
theorem Own.more {w : World} {base mid top top' : Nat} {L M : List Rw} (h : Own w base top L) (g : Own w mid top' M) (hm : top ≤ mid) (hb : base ≤ mid) (ht : top ≤ top') : Own w base top' (L ++ M) := by
  refine ⟨fun r hr => ?_, List.pairwise_append.2 ⟨h.2, g.2, fun r hr s hs k h1 h2 => ?_⟩⟩
  · rcases List.mem_append.1 hr with hr | hr
    · exact ⟨(h.1 r hr).1, fun k hk => Nat.lt_of_lt_of_le ((h.1 r hr).2 k hk) ht⟩
    · exact ⟨own_base (g.1 r hr).1 hb, (g.1 r hr).2⟩
  · have a1 := (h.1 r hr).2 k h1
    have a2 := ((g.1 s hs).1.lt k h2).1
    omega
/-- Rows in another order. -/
theorem Own.perm {w : World} {base top : Nat} {L M : List Rw} (h : Own w base top L) (hp : L.Perm M) : Own w base top M :=
  ⟨fun r hr => h.1 r (hp.mem_iff.2 hr), h.2.perm hp (fun h => Rw.apart.symm h)⟩
theorem Own.sub {w : World} {base top : Nat} {L M : List Rw} (h : Own w base top L) (hp : M.Sublist L) : Own w base top M := ⟨fun r hr => h.1 r (hp.subset hr), h.2.sublist hp⟩
theorem ne_own {r s : Rw} (h : Rw.apart r s) : s.v.ownBlock = none ∨ s.v.ownBlock ≠ r.v.ownBlock := by
  cases e : r.v.ownBlock with
  | none => cases e2 : s.v.ownBlock with
    | none => exact .inl rfl
    | some k => exact .inr (by simp)
  | some k => exact .inr (h k e)
theorem setAt_apart : ∀ {L : List Rw} (_ : L.Pairwise Rw.apart) (i : Nat) (h : i < L.length) {r : Rw} (_ : r.v.ownBlock = L[i].v.ownBlock), (L.set i r).Pairwise Rw.apart
  | a :: L, hp, 0, _, r, hv => by
    rw [List.pairwise_cons] at hp
    rw [List.set_cons_zero, List.pairwise_cons]
    exact ⟨fun s hs k h1 => hp.1 s hs k (by rw [← h1, hv]; rfl), hp.2⟩
  | a :: L, hp, i + 1, h, r, hv => by
    rw [List.pairwise_cons] at hp
    rw [List.set_cons_succ, List.pairwise_cons]
    refine ⟨fun s hs k h1 h2 => ?_, setAt_apart hp.2 i (by simpa using h) (by simpa using hv)⟩
    rcases List.mem_or_eq_of_mem_set hs with hs | rfl
    · exact hp.1 s hs k h1 h2
    · exact hp.1 _ (List.getElem_mem (by simpa using h)) k h1 (by rw [← h2, hv]; rfl)
theorem apart_at {L : List Rw} (hp : L.Pairwise Rw.apart) {i j : Nat} (hi : i < L.length) (hj : j < L.length) (hne : i ≠ j) : Rw.apart L[i] L[j] := by
  rcases Nat.lt_or_gt_of_ne hne with h | h
  · exact List.pairwise_iff_getElem.1 hp i j hi hj h
  · exact (List.pairwise_iff_getElem.1 hp j i hj hi h).symm
/-- One row has been written to. -/
theorem Own.put {w w' : World} {base top : Nat} {L : List Rw} (h : Own w base top L) (i : Nat) (hi : i < L.length) {r : Rw} (hv : r.v.ownBlock = L[i].v.ownBlock) (hg : w.grownBy w' L[i].v.ownBlock) (hr : w'.ownsRow base r.t r.sz r.v r.n r.xs) : Own w' base top (L.set i r) := by
  refine ⟨fun s hs => ?_, setAt_apart h.2 i hi hv⟩
  obtain ⟨j, hj, rfl⟩ := List.getElem_of_mem hs
  have hj' : j < L.length := by simpa using hj
  rw [List.getElem_set]
  split
  · exact ⟨hr, fun k hk => (h.1 L[i] (List.getElem_mem hi)).2 k (by rw [← hv]; exact hk)⟩
  · rename_i hne
    have hs := h.1 L[j] (List.getElem_mem hj')
    exact ⟨hs.1.kept hg (ne_own (apart_at h.2 hi hj' hne)), hs.2⟩
theorem Own.only_of {w w' : World} {base top : Nat} {L : List Rw} (h : Own w base top L) (i : Nat) (hi : i < L.length) (hg : w.grownBy w' L[i].v.ownBlock) : Only base top w w' :=
  Only.of_grown hg (fun k hk => ⟨((h.1 _ (List.getElem_mem hi)).1.lt k hk).1, (h.1 _ (List.getElem_mem hi)).2 k hk⟩)
theorem Own.row {w : World} {base top : Nat} {L : List Rw} (h : Own w base top L) (i : Nat) (hi : i < L.length) : w.ownsRow base L[i].t L[i].sz L[i].v L[i].n L[i].xs := (h.1 _ (List.getElem_mem hi)).1
end Go.Proofs.YtjmfefaoenmppaaGreatDoor

namespace Go.Proofs.YtjmfefaoenmppaaGreatDoor
open Go.RowKit

theorem sz_ptrL (A : Option Addr) (cap n : Nat) (L : Int) (w : World) (hL0 : 0 ≤ L) (hL : L ≤ 1048576) (hn : n ≤ maxLen) :
    Calls Tryz.prog 39 #[.slice A n cap, .int .i64 L] w (SzPost n L w) := by
  unfold maxLen at hn
  by_cases h : L < (n : Int)
  · have h2 : L - (n : Int) < 0 := by omega
    go_enter Tryz.func39, Tryz.ntmps39
    go_wp2
    go_ret
    exact ⟨_, rfl, Below.refl _ _, by intro h; omega⟩
  · have h2 : ¬ L - (n : Int) < 0 := by omega
    go_enter Tryz.func39, Tryz.ntmps39
    go_wp2
    go_ret
    exact ⟨_, rfl, Below.refl _ _, by intro h; omega⟩

theorem flat_nil : flat [] = [] := rfl
theorem eq_ptrsO {b1 b2 : Nat} {A B : Option Addr} {ca cb : Nat} {ps : List P5} {w : World} (hn : ps.length ≤ 1048576) (h1 : w.ownsRow b1 40 5 (.slice A ps.length ca) ps.length (flat ps)) (h2 : w.ownsRow b2 40 5 (.slice B ps.length cb) ps.length (flat ps)) :
    Calls Tryz.prog 18 #[.slice A ps.length ca, .slice B ps.length cb] w fun e w' => e = .returned (.bool true) ∧ Below w.heap.size w w' := by
  by_cases h0 : 0 < ps.length
  · obtain ⟨g, rfl⟩ := own_addr h1 h0
    obtain ⟨h, rfl⟩ := own_addr h2 h0
    exact eq_ptrs g h ca cb ps w hn (PtrsAt.of_own h1) (PtrsAt.of_own h2)
  · have h0 : ps.length = 0 := by omega
    rw [h0]
    clear h0 h1 h2 hn
    go_enter Tryz.func18, Tryz.ntmps18
    go_wp2
    go_loop [5] (fun i => i = .int .i64 0) (fun _ => 0)
    case atStart => rfl
    case round =>
      subst hrel
      go_wp2
      go_ret
      exact ⟨rfl, Below.refl _ _⟩

/-- The numbers from a on. -/
def marksP (a : Int) (m : Nat) : List Value := (List.range m).map fun i : Nat => .int .i64 (a + (i : Int))
theorem marksP_len (a : Int) (m : Nat) : (marksP a m).length = m := by simp [marksP]
theorem marksP_five (a : Int) (j : Nat) : marksP a (5 * (j + 1)) = marksP a (5 * j) ++ [.int .i64 (a + 5 * (j : Int)), .int .i64 (a + 5 * (j : Int) + 1), .int .i64 (a + 5 * (j : Int) + 1 + 1), .int .i64 (a + 5 * (j : Int) + 1 + 1 + 1), .int .i64 (a + 5 * (j : Int) + 1 + 1 + 1 + 1)] := by
  unfold marksP
  rw [show 5 * (j + 1) = 5 * j + 1 + 1 + 1 + 1 + 1 by omega]
  simp only [List.range_succ, List.map_append, List.map_cons, List.map_nil, List.append_assoc, List.cons_append, List.nil_append]
  congr 1
  simp only [List.cons.injEq, Value.int.injEq, true_and, and_true]
  omega
theorem marksP_at (a : Int) (n j k : Nat) (hj : j < n) (hk : k < 5) : (marksP a (5 * n))[j * 5 + k]? = some (.int .i64 (a + 5 * (j : Int) + k)) := by
  unfold marksP
  rw [List.getElem?_map, List.getElem?_range (by omega)]
  simp only [Option.map_some, Option.some.injEq, Value.int.injEq, true_and]
  omega

set_option maxRecDepth 100000 in
set_option maxHeartbeats 4000000 in
theorem mark_ptrA (t : TypeId) (base g c n : Nat) (xs : List Value) (a : Int) (w : World) (ha : 1 ≤ a) (hn : a + 5 * n ≤ 9999999) (ho : w.ownsRow base t 5 (.slice (some ⟨g, 0, none⟩) n c) n xs) :
    Calls Tryz.prog 20 #[.slice (some ⟨g, 0, none⟩) n c, .int .i64 a] w fun e w' => e = .returned (.int .i64 (a + 5 * (n : Int))) ∧ w'.ownsRow base t 5 (.slice (some ⟨g, 0, none⟩) n c) n (marksP a (5 * n)) ∧ w.grownBy w' (some g) := by
  have hxl : xs.length = 5 * n := by have := ho.1; omega
  go_enter Tryz.func20, Tryz.ntmps20
  go_wp2
  go_loopw [1, 5] (fun kv i wr => ∃ j : Nat, j ≤ n ∧ i = .int .i64 j ∧ kv = .int .i64 (a + 5 * (j : Int)) ∧ wr.ownsRow base t 5 (.slice (some ⟨g, 0, none⟩) n c) n (marksP a (5 * j) ++ xs.drop (5 * j)) ∧ w.grownBy wr (some g)) (fun _ i _ => n - (intOf i).toNat)
  case atStart => exact ⟨0, Nat.zero_le _, rfl, by simp, by simpa [marksP] using ho, World.grownBy.refl w (some g)⟩
  case round =>
    obtain ⟨j, hj, rfl, rfl, hr, hgr⟩ := hrel
    clear ho
    by_cases hlt : j < n
    · have hlt' : (j : Int) < (n : Int) := by omega
      obtain ⟨x0, x1, x2, x3, x4, R, hR, hd⟩ : ∃ x0 x1 x2 x3 x4 R, xs.drop (5 * j) = x0 :: x1 :: x2 :: x3 :: x4 :: R ∧ R = xs.drop (5 * (j + 1)) := by
        have hl : (xs.drop (5 * j)).length = 5 * n - 5 * j := by rw [List.length_drop, hxl]
        match h : xs.drop (5 * j) with
        | x0 :: x1 :: x2 :: x3 :: x4 :: R =>
          refine ⟨x0, x1, x2, x3, x4, R, rfl, ?_⟩
          rw [show 5 * (j + 1) = 5 * j + 5 by omega, ← List.drop_drop, h]
          rfl
        | [] => rw [h] at hl; simp at hl; omega
        | [_] => rw [h] at hl; simp at hl; omega
        | [_, _] => rw [h] at hl; simp at hl; omega
        | [_, _, _] => rw [h] at hl; simp at hl; omega
        | [_, _, _, _] => rw [h] at hl; simp at hl; omega
      rw [hR] at hr
      have hml : (marksP a (5 * j)).length = j * 5 := by rw [marksP_len]; omega
      have cell : ∀ i v, i < 5 → (x0 :: x1 :: x2 :: x3 :: x4 :: R)[i]? = some v → wr.cell? ⟨g, j * 5 + i, none⟩ = some v := fun i v hi hv => by
        rw [hr.cellAt (j * 5 + i) (by omega), List.getElem?_append_right (by omega), hml, show j * 5 + i - j * 5 = i by omega, hv]
      have y0 : wr.cell? ⟨g, j * 5, none⟩ = some x0 := cell 0 _ (by decide) rfl
      have y1 : wr.cell? ⟨g, j * 5 + 1, none⟩ = some x1 := cell 1 _ (by decide) rfl
      have y2 : wr.cell? ⟨g, j * 5 + 2, none⟩ = some x2 := cell 2 _ (by decide) rfl
      have y3 : wr.cell? ⟨g, j * 5 + 3, none⟩ = some x3 := cell 3 _ (by decide) rfl
      have y4 : wr.cell? ⟨g, j * 5 + 4, none⟩ = some x4 := cell 4 _ (by decide) rfl
      have f0 := hr.frozenAt (j * 5)
      have f1 := hr.frozenAt (j * 5 + 1)
      have f2 := hr.frozenAt (j * 5 + 2)
      have f3 := hr.frozenAt (j * 5 + 3)
      have f4 := hr.frozenAt (j * 5 + 4)
      have H5 := Lib.hid (marksP_five a j)
      have HD := Lib.hid hd
      clear hR hd cell
      go_wp2_with fail
      have S0 := hr.stored (j * 5) (.int .i64 (a + 5 * (j : Int)))
      have S1 := S0.1.stored (j * 5 + 1) (.int .i64 (a + 5 * (j : Int) + 1))
      have S2 := S1.1.stored (j * 5 + 2) (.int .i64 (a + 5 * (j : Int) + 1 + 1))
      have S3 := S2.1.stored (j * 5 + 3) (.int .i64 (a + 5 * (j : Int) + 1 + 1 + 1))
      have S4 := S3.1.stored (j * 5 + 4) (.int .i64 (a + 5 * (j : Int) + 1 + 1 + 1 + 1))
      have HG := ((((hgr.trans S0.2).trans S1.2).trans S2.2).trans S3.2).trans S4.2
      have R5 := S4.1
      rw [set_five _ R (j * 5) hml] at R5
      go_roundw
      case rel => exact ⟨j + 1, by omega, by go_num, by go_num, by rw [H5.out, ← HD.out, List.append_assoc]; exact R5, HG⟩
      case measure => simp [intOf]; omega
    · obtain rfl : j = n := by omega
      rw [List.drop_of_length_le (by omega), List.append_nil] at hr
      go_wp2
      go_ret
      exact ⟨rfl, hr, hgr⟩

def MarkPo (base : Nat) (t : TypeId) (v : Value) (a : Int) (n : Nat) (w : World) (e : Ending) (w' : World) : Prop :=
  e = .returned (.int .i64 (a + 5 * (n : Int))) ∧ w'.ownsRow base t 5 v n (marksP a (5 * n)) ∧ w.grownBy w' v.ownBlock
theorem mark_ptrsO (t : TypeId) (base : Nat) (A : Option Addr) (c n : Nat) (xs : List Value) (a : Int) (w : World) (ha : 1 ≤ a) (hn : a + 5 * n ≤ 9999999) (ho : w.ownsRow base t 5 (.slice A n c) n xs) :
    Calls Tryz.prog 20 #[.slice A n c, .int .i64 a] w (MarkPo base t (.slice A n c) a n w) := by
  by_cases h0 : 0 < n
  · obtain ⟨g, rfl⟩ := own_addr ho h0
    exact mark_ptrA t base g c n xs a w ha hn ho
  · obtain rfl : n = 0 := by omega
    have hx : xs = [] := List.length_eq_zero_iff.1 (by have := ho.1; omega)
    subst hx
    clear h0
    go_enter Tryz.func20, Tryz.ntmps20
    go_wp2
    go_loop [1, 5] (fun kv i => kv = .int .i64 a ∧ i = .int .i64 0) (fun _ _ => 0)
    case atStart => exact ⟨rfl, rfl⟩
    case round =>
      obtain ⟨rfl, rfl⟩ := hrel
      go_wp2
      go_ret
      exact ⟨by simp, ho, World.grownBy.refl w _⟩

set_option maxRecDepth 100000 in
set_option maxHeartbeats 4000000 in
theorem held_ptrsO (t : TypeId) (base : Nat) (A : Option Addr) (c n : Nat) (a : Int) (w : World) (ha : 1 ≤ a) (hn : a + 5 * n ≤ 9999999) (ho : w.ownsRow base t 5 (.slice A n c) n (marksP a (5 * n))) :
    Calls Tryz.prog 21 #[.slice A n c, .int .i64 a] w fun e w' => e = .returned (.int .i64 (a + 5 * (n : Int))) ∧ w = w' := by
  go_enter Tryz.func21, Tryz.ntmps21
  go_wp2
  go_loop [1, 5] (fun kv i => ∃ j : Nat, j ≤ n ∧ i = .int .i64 j ∧ kv = .int .i64 (a + 5 * (j : Int))) (fun _ i => n - (intOf i).toNat)
  case atStart => exact ⟨0, Nat.zero_le _, rfl, by simp⟩
  case round =>
    obtain ⟨j, hj, rfl, rfl⟩ := hrel
    by_cases hlt : j < n
    · have hlt' : (j : Int) < (n : Int) := by omega
      obtain ⟨g, rfl⟩ := own_addr ho (by omega)
      have cell : ∀ i, i < 5 → w.cell? ⟨g, j * 5 + i, none⟩ = some (.int .i64 (a + 5 * (j : Int) + i)) := fun i hi => by
        rw [ho.cellAt (j * 5 + i) (by omega), marksP_at a n j i hlt hi]
      have y0 : w.cell? ⟨g, j * 5, none⟩ = some (.int .i64 (a + 5 * (j : Int))) := by simpa using cell 0 (by decide)
      have y1 : w.cell? ⟨g, j * 5 + 1, none⟩ = some (.int .i64 (a + 5 * (j : Int) + 1)) := cell 1 (by decide)
      have y2 : w.cell? ⟨g, j * 5 + 2, none⟩ = some (.int .i64 (a + 5 * (j : Int) + 1 + 1)) := by rw [show a + 5 * (j : Int) + 1 + 1 = a + 5 * (j : Int) + 2 by omega]; exact cell 2 (by decide)
      have y3 : w.cell? ⟨g, j * 5 + 3, none⟩ = some (.int .i64 (a + 5 * (j : Int) + 1 + 1 + 1)) := by rw [show a + 5 * (j : Int) + 1 + 1 + 1 = a + 5 * (j : Int) + 3 by omega]; exact cell 3 (by decide)
      have y4 : w.cell? ⟨g, j * 5 + 4, none⟩ = some (.int .i64 (a + 5 * (j : Int) + 1 + 1 + 1 + 1)) := by rw [show a + 5 * (j : Int) + 1 + 1 + 1 + 1 = a + 5 * (j : Int) + 4 by omega]; exact cell 4 (by decide)
      have q : ∀ x : Int, (x != x) = false := fun x => by simp
      have q0 := q (a + 5 * (j : Int))
      have q1 := q (a + 5 * (j : Int) + 1)
      have q2 := q (a + 5 * (j : Int) + 1 + 1)
      have q3 := q (a + 5 * (j : Int) + 1 + 1 + 1)
      have q4 := q (a + 5 * (j : Int) + 1 + 1 + 1 + 1)
      clear cell q ho
      go_wp2_with fail
      go_round
      case rel => exact ⟨j + 1, by omega, by go_num, by go_num⟩
      case measure => simp [intOf]; omega
    · obtain rfl : j = n := by omega
      clear ho
      go_wp2
      go_ret
      exact ⟨rfl, rfl⟩
end Go.Proofs.YtjmfefaoenmppaaGreatDoor

namespace Go.Proofs.YtjmfefaoenmppaaGreatDoor
open Go.RowKit

/-- A space with its marks. -/
def markSA (a : Int) (s : Sp) : Sp := ⟨marks a s.refs.length, marks (a + (s.refs.length : Int)) s.last.length⟩
theorem markSA_1 (a : Int) (s : Sp) : (markSA a s).refs.length = s.refs.length := by simp [markSA, marks_len]
theorem markSA_2 (a : Int) (s : Sp) : (markSA a s).last.length = s.last.length := by simp [markSA, marks_len]

set_option maxHeartbeats 1000000 in
theorem mark_spaceA (base top : Nat) (A B : Option Addr) (c e : Nat) (s : Sp) (w : World) (a : Int) (ha : 1 ≤ a) (ha2 : a ≤ 2000000) (hn : s.refs.length ≤ 1048576) (hm : s.last.length ≤ 1048576) (htop : top ≤ w.heap.size) (h : SpIn w base top (.agg #[.slice A s.refs.length c, .slice B s.last.length e]) s) :
    Calls Tryz.prog 53 #[.agg #[.slice A s.refs.length c, .slice B s.last.length e], .int .i64 a] w fun r w' => r = .returned (.int .i64 (a + (s.refs.length : Int) + (s.last.length : Int))) ∧ SpIn w' base top (.agg #[.slice A s.refs.length c, .slice B s.last.length e]) (markSA a s) ∧ Only base top w w' := by
  obtain ⟨u1, u2, e0, ⟨h1, t1⟩, ⟨h2, t2⟩, hne⟩ := h
  simp only [Value.agg.injEq, Array.mk.injEq, List.cons.injEq, and_true] at e0
  obtain ⟨rfl, rfl⟩ := e0
  have hS := fun W hW => mark_ints base A c s.refs a W (by omega) (by omega) hW
  have hT := fun W hW => mark_ints base B e s.last (a + (s.refs.length : Int)) W (by omega) (by omega) hW
  have r1 : ∀ k, (Value.slice A s.refs.length c).ownBlock = some k → base ≤ k ∧ k < top := fun k hk => ⟨(h1.lt k hk).1, t1 k hk⟩
  have r2 : ∀ k, (Value.slice B s.last.length e).ownBlock = some k → base ≤ k ∧ k < top := fun k hk => ⟨(h2.lt k hk).1, t2 k hk⟩
  have f1 : ∀ k, (Value.slice A s.refs.length c).ownBlock = some k → k < w.heap.size := fun k hk => (h1.lt k hk).2
  have hne1 : (Value.slice B s.last.length e).ownBlock = none ∨ (Value.slice B s.last.length e).ownBlock ≠ (Value.slice A s.refs.length c).ownBlock := by
    cases e1 : (Value.slice A s.refs.length c).ownBlock with
    | none =>
      cases e2 : (Value.slice B s.last.length e).ownBlock with
      | none => exact .inl rfl
      | some k => exact .inr (by simp)
    | some k => exact .inr (hne k e1)
  have hne2 : (Value.slice A s.refs.length c).ownBlock = none ∨ (Value.slice A s.refs.length c).ownBlock ≠ (Value.slice B s.last.length e).ownBlock := by
    cases e1 : (Value.slice A s.refs.length c).ownBlock with
    | none => exact .inl rfl
    | some k => exact .inr fun e2 => hne k e1 e2.symm
  have fin : ∀ W : World, W.ownsRow base 3 1 (.slice A s.refs.length c) s.refs.length (intCells (marks a s.refs.length)) → W.ownsRow base 3 1 (.slice B s.last.length e) s.last.length (intCells (marks (a + (s.refs.length : Int)) s.last.length)) → SpIn W base top (.agg #[.slice A s.refs.length c, .slice B s.last.length e]) (markSA a s) := fun W k1 k2 =>
    ⟨_, _, rfl, ⟨by rw [markSA_1]; exact k1, t1⟩, ⟨by rw [markSA_2]; exact k2, t2⟩, hne⟩
  have FIN := Lib.hid fin
  have HNE := Lib.hid hne1
  have HNE2 := Lib.hid hne2
  clear fin hne hne1 hne2
  go_enter Tryz.func53, Tryz.ntmps53
  go_wp2_with (first
    | (go_at_call 35
       ((with_reducible refine (hS _ (h1.alloc _)).mono ?_)
        rintro r w2 ⟨rfl, o1, g1⟩
        have o2 := (h2.alloc _).kept g1 HNE.out
        have hc : ∀ o, w2.cell? ⟨w.heap.size, o, none⟩ = (w.alloc _).cell? ⟨w.heap.size, o, none⟩ := fun o => World.cell?_of_block (g1.block w.heap.size (by simp) (fun e => absurd (f1 _ e.symm) (Nat.lt_irrefl _)))))
    | (go_at_call 35
       refine (hT _ o2).mono ?_
       rintro r w3 ⟨rfl, o3, g3⟩))
  go_ret
  exact ⟨rfl, FIN.out _ (o1.kept g3 HNE2.out) o3, (Only.of_below (bel_new (Below.refl _ _) _)).trans ((Only.of_grown g1 r1).trans (Only.of_grown g3 r2))⟩

set_option maxHeartbeats 1000000 in
theorem held_spaceA (base : Nat) (A B : Option Addr) (c e : Nat) (s : Sp) (w : World) (a : Int) (ha : 1 ≤ a) (ha2 : a ≤ 2000000) (hn : s.refs.length ≤ 1048576) (hm : s.last.length ≤ 1048576) (h : SpOwn w base (.agg #[.slice A s.refs.length c, .slice B s.last.length e]) (markSA a s)) :
    Calls Tryz.prog 63 #[.agg #[.slice A s.refs.length c, .slice B s.last.length e], .int .i64 a] w fun r w' => r = .returned (.int .i64 (a + (s.refs.length : Int) + (s.last.length : Int))) ∧ Below w.heap.size w w' := by
  have hl := SpOwn.lies (s := markSA a s) (A := A) (B := B) (c := c) (e := e) (base := base) (w := w) (by rw [markSA_1, markSA_2]; exact h)
  have hS := fun W hW => held_ints A c s.refs.length a W (by omega) (by omega) (hl.1.below (w' := W) hW)
  have hT := fun W hW => held_ints B e s.last.length (a + (s.refs.length : Int)) W (by omega) (by omega) (hl.2.below (w' := W) hW)
  have nn1 : ¬ (a + (s.refs.length : Int)) < 0 := by omega
  have nn2 : ¬ (a + (s.refs.length : Int) + (s.last.length : Int)) < 0 := by omega
  clear h hl
  go_enter Tryz.func63, Tryz.ntmps63
  go_wp2_with (first
    | (go_at_call 36; ((with_reducible refine (hS _ (bel_new (Below.refl _ _) _)).mono ?_); rintro r w2 ⟨rfl, rfl⟩))
    | (go_at_call 36; refine (hT _ (bel_new (Below.refl _ _) _)).mono ?_; rintro r w3 ⟨rfl, rfl⟩))
  go_ret
  exact ⟨rfl, bel_new (Below.refl _ _) _⟩
end Go.Proofs.YtjmfefaoenmppaaGreatDoor

namespace Go.Proofs.YtjmfefaoenmppaaGreatDoor
open Go.RowKit

def strOf (l : List UInt8) : ByteArray := ⟨l.toArray⟩
def strCells (ss : List ByteArray) : List Value := ss.map Value.string
theorem strCells_len (ss : List ByteArray) : (strCells ss).length = ss.length := by simp [strCells]
theorem strCells_app (a b : List ByteArray) : strCells (a ++ b) = strCells a ++ strCells b := by simp [strCells]
theorem strCells_at (ss : List ByteArray) (k : Nat) (h : k < ss.length) : (strCells ss)[k]? = some (.string ss[k]) := by simp [strCells, h]
theorem strCells_one (ss : List ByteArray) : ∀ u ∈ strCells ss, u.oneCell' = true := fun u hu => by
  obtain ⟨x, _, rfl⟩ := List.mem_map.1 hu
  rfl
theorem Lies.str {w : World} {A : Option Addr} {ss : List ByteArray} (h : Lies w A (strCells ss)) (k : Nat) (hk : k < ss.length) : ∃ b off, A = some ⟨b, off, none⟩ ∧ b < w.heap.size ∧ w.cell? ⟨b, off + k, none⟩ = some (.string ss[k]) := by
  obtain ⟨b, off, e, hlt, hc⟩ := h (by rw [strCells_len]; omega)
  exact ⟨b, off, e, hlt, hc k _ (strCells_at ss k hk)⟩
namespace Sx
theorem strOf_toList (l : List UInt8) : (strOf l).data.toList = l := by simp [strOf]
theorem strOf_size (l : List UInt8) : (strOf l).size = l.length := by simp [strOf, ByteArray.size]
theorem bytes_inj {a b : ByteArray} (h : a.data.toList = b.data.toList) : a = b := by
  cases a; cases b
  simp at h
  rw [h]
theorem strOf_app (l m : List UInt8) : strOf l ++ strOf m = strOf (l ++ m) := by
  apply bytes_inj
  rw [strOf_toList]
  simp [strOf]
theorem add_strs (P : Program) (l m : List UInt8) (h : l.length + m.length ≤ 9223372036854775807) (w : World) : (Op.stringOp .add (strOf l) (strOf m)).run P w = .ok (.string (strOf (l ++ m))) w := by
  rw [run_string_add_sum w _ _ (by rw [strOf_size, strOf_size]; exact h), strOf_app]
set_option maxRecDepth 100000 in
theorem conv_one (w : World) (B : Nat) (x : UInt8) (h : w.cell? ⟨B, 0, none⟩ = some (.int .u8 (x.toNat : Int))) :
    (convert 121 9 (.slice (some ⟨B, 0, none⟩) 1 1)).run Tryz.prog w = .ok (.string (strOf [x])) w := by
  have hr := run_convert_bytes_arg (P := Tryz.prog) w 121 5 Tryz.underlying121 Tryz.underlying5 B 0 1 1 [(x.toNat : Int)] rfl (fun i hi => by
    obtain rfl : i = 0 := by omega
    rw [h]; rfl) 9 Tryz.underlying9
  rw [hr]
  congr 2
  simp [strOfNums, strOf]
theorem dec_small (u : Nat) (h : u < 10) : Lib.decDigits u = [UInt8.ofNat (48 + u)] := by rw [Lib.decDigits, dif_pos h]
theorem dec_more (u : Nat) (h : ¬ u < 10) : Lib.decDigits u = Lib.decDigits (u / 10) ++ [UInt8.ofNat (48 + u % 10)] := by rw [Lib.decDigits, dif_neg h]
theorem dig_nums (a : Int) (h0 : 0 ≤ a) (h9 : a < 10) : (48 + a : Int) = ((UInt8.ofNat (48 + a.toNat)).toNat : Int) := by
  have h : (UInt8.ofNat (48 + a.toNat)).toNat = 48 + a.toNat := by simp; omega
  rw [h]
  omega
theorem dec_length (k : Nat) : ∀ v : Nat, v < 10 ^ (k + 1) → (Lib.decDigits v).length ≤ k + 1 := by
  induction k with
  | zero =>
    intro v h
    rw [dec_small v (by simpa using h)]
    simp
  | succ k ih =>
    intro v h
    by_cases h10 : v < 10
    · rw [dec_small v h10]; simp
    · rw [dec_more v h10]
      have := ih (v / 10) (by rw [Nat.pow_succ] at h; omega)
      simp
      omega
def markL (k : Nat) : List UInt8 := 109 :: Lib.decDigits k
theorem dec_len7 (k : Nat) (h : k ≤ 9999999) : (Lib.decDigits k).length ≤ 7 := dec_length 6 k (by omega)

set_option maxRecDepth 100000 in
set_option maxHeartbeats 1000000 in
theorem mark_text (a : Int) (w : World) (h1 : 1 ≤ a) (h2 : a ≤ 9999999) :
    Calls Tryz.prog 81 #[.int .i64 a] w fun e w' => e = .returned (.string (strOf (markL a.toNat))) ∧ Below w.heap.size w w' := by
  obtain ⟨k, rfl⟩ : ∃ k : Nat, a = (k : Int) := ⟨a.toNat, by omega⟩
  rw [Int.toNat_natCast]
  have hk7 := dec_len7 k (by omega)
  have h1' : ¬ (k : Int) ≤ 0 := by omega
  go_enter Tryz.func81, Tryz.ntmps81
  go_wp2
  go_loopg [0, 3] k (fun g i o wr => ∃ (j : Nat) (l : List UInt8), g = j ∧ i = .int .i64 j ∧ o = .string (strOf l) ∧ l.length ≤ 7 ∧ j ≤ 9999999 ∧ (0 < j → Lib.decDigits k = Lib.decDigits j ++ l) ∧ (j = 0 → l = Lib.decDigits k) ∧ Below w.heap.size w wr)
  case atStart => exact ⟨k, [], rfl, rfl, rfl, by simp, by omega, fun _ => by simp, fun h => by omega, Below.refl _ _⟩
  case round =>
    obtain ⟨j, l, hg, rfl, rfl, hl, hj, hp, hz, hb⟩ := hrel
    have HG := Lib.hid hg
    clear hg
    by_cases hj0 : 0 < j
    · have hjj : (0 : Int) < (j : Int) := by omega
      obtain ⟨q, hq⟩ : ∃ q, q = j / 10 := ⟨_, rfl⟩
      obtain ⟨m, hm⟩ : ∃ m, m = j % 10 := ⟨_, rfl⟩
      have hm9 : m < 10 := by omega
      have hn := dig_nums (m : Int) (by omega) (by omega)
      rw [Int.toNat_natCast] at hn
      have hnew : (0 < q → Lib.decDigits k = Lib.decDigits q ++ (UInt8.ofNat (48 + m) :: l)) ∧ (q = 0 → UInt8.ofNat (48 + m) :: l = Lib.decDigits k) := by
        have hp' := hp hj0
        by_cases h10 : j < 10
        · rw [dec_small j h10] at hp'
          have : m = j := by omega
          subst this
          exact ⟨fun h => by omega, fun _ => by rw [hp']; rfl⟩
        · rw [dec_more j h10, ← hq, ← hm] at hp'
          exact ⟨fun _ => by rw [hp']; simp, fun h => by omega⟩
      obtain ⟨x, hx⟩ : ∃ x, x = UInt8.ofNat (48 + m) := ⟨_, rfl⟩
      rw [← hx] at hn hnew
      have hl2 : (x :: l).length ≤ 7 := by
        rcases Nat.eq_zero_or_pos q with h | h
        · rw [hnew.2 h]; exact hk7
        · have := congrArg List.length (hnew.1 h)
          rw [List.length_append] at this
          omega
      have hadd := add_strs Tryz.prog [x] l (by simp; omega)
      have hcv : ∀ (W : World) (B : Nat), W.cell? ⟨B, 0, none⟩ = some (.int .u8 (48 + (m : Int))) → (convert 121 9 (.slice (some ⟨B, 0, none⟩) 1 1)).run Tryz.prog W = .ok (.string (strOf [x])) W := fun W B h => conv_one W B x (by rw [h, hn])
      have hd : ((j : Int)).tdiv 10 = (q : Int) := by rw [Int.tdiv_eq_ediv_of_nonneg (by omega)]; omega
      have hmm : ((j : Int)).tmod 10 = (m : Int) := by rw [Int.tmod_eq_emod_of_nonneg (by omega)]; omega
      have hwq : IntKind.i64.wrap (q : Int) = q := IntWalk.i64_in _ (by omega)
      have hwm : IntKind.i64.wrap (48 + (m : Int)) = 48 + m := IntWalk.i64_in _ (by omega)
      have hwu : IntKind.u8.wrap (48 + (m : Int)) = 48 + m := IntWalk.u8_in _ (by omega)
      have HN := Lib.hid hnew
      have HQ := Lib.hid hq
      clear hnew hx hn hp hz hq hm
      go_wp2_with fail
      go_roundg q
      case measure => have := HG.out; have := HQ.out; omega
      case rel => exact ⟨q, x :: l, rfl, by first | rfl | (rw [hd, hwq]) | (go_num), rfl, hl2, by have := HQ.out; omega, HN.out.1, HN.out.2, hb.alloc hb.size _⟩
    · have hjz : j = 0 := by omega
      subst hjz
      have hle := hz rfl
      subst hle
      clear hp hz
      have hadd : ∀ w, (Op.stringOp .add ⟨#[109]⟩ (strOf (Lib.decDigits k))).run Tryz.prog w = .ok (.string (strOf (markL k))) w := fun w => add_strs Tryz.prog [109] (Lib.decDigits k) (by simp; omega) w
      go_wp2_with fail
      go_ret
      exact ⟨rfl, hb⟩
def SzPost (n : Nat) (L : Int) (w : World) (e : Ending) (w' : World) : Prop := ∃ z : Int, e = .returned (.int .i64 z) ∧ Below w.heap.size w w' ∧ (0 ≤ z → (n : Int) ≤ L - z)

set_option maxHeartbeats 1000000 in
theorem sz_strs (A : Option Addr) (cap : Nat) (ss : List ByteArray) (L : Int) (w : World) (hL0 : 0 ≤ L) (hL : L ≤ 1048576) (hn : ss.length ≤ maxLen) (hs : ∀ s ∈ ss, s.size ≤ maxLen) (hA : Lies w A (strCells ss)) :
    Calls Tryz.prog 37 #[.slice A ss.length cap, .int .i64 L] w (SzPost ss.length L w) := by
  unfold maxLen at hn
  by_cases h0 : L < (ss.length : Int)
  · have h0' : L - (ss.length : Int) < 0 := by omega
    go_enter Tryz.func37, Tryz.ntmps37
    go_wp2
    go_ret
    exact ⟨_, rfl, Below.refl _ _, by intro h; omega⟩
  · have h0' : ¬ L - (ss.length : Int) < 0 := by omega
    go_enter Tryz.func37, Tryz.ntmps37
    go_wp2
    go_loop [1, 5] (fun z i => ∃ (k : Nat) (u : Int), k ≤ ss.length ∧ i = .int .i64 k ∧ z = .int .i64 u ∧ 0 ≤ u ∧ (ss.length : Int) ≤ L - u) (fun _ i => ss.length - (intOf i).toNat)
    case atStart => exact ⟨0, L - ss.length, Nat.zero_le _, rfl, rfl, by omega, by omega⟩
    case round =>
      obtain ⟨k, u, hk, rfl, rfl, hu, hle⟩ := hrel
      by_cases hlt : k < ss.length
      · obtain ⟨b, off, rfl, hb, hck⟩ := hA.str k hlt
        have hsk := hs ss[k] (by simp)
        unfold maxLen at hsk
        obtain ⟨x, hx⟩ : ∃ x, x = ss[k] := ⟨_, rfl⟩
        rw [← hx] at hck hsk
        clear hx
        by_cases hz : u < (x.size : Int)
        · have hz' : u - (x.size : Int) < 0 := by omega
          go_wp2
          go_ret
          exact ⟨_, rfl, Below.refl _ _, by intro h; omega⟩
        · have hz' : ¬ u - (x.size : Int) < 0 := by omega
          go_wp2
          go_round
          case rel => exact ⟨k + 1, u - x.size, by omega, by go_num, rfl, by omega, by omega⟩
          case measure => simp [intOf]; omega
      · have hke : k = ss.length := by omega
        subst hke
        go_wp2
        go_ret
        exact ⟨_, rfl, Below.refl _ _, fun _ => by omega⟩
theorem Tryz.info9 : (Tryz.prog.info? 9).map (fun i => (i.zero, i.size, i.bytes)) = some (some (.string ⟨#[]⟩), 1, 16) := by kernel_rfl

theorem made_strs (n : Nat) : (madeCells (Value.cells (.string ⟨#[]⟩)) (n * 1)).toList = List.replicate n (Value.string ⟨#[]⟩) := by
  apply List.ext_getElem
  · simp [madeCells]
  · intro i h1 h2
    simp [madeCells, Value.cells, Nat.mod_one]
theorem set_next (ss : List ByteArray) (k m : Nat) (h : k < ss.length) (hm : ss.length - k = m + 1) :
    (strCells (ss.take k) ++ List.replicate (ss.length - k) (Value.string ⟨#[]⟩)).set k (Value.string ss[k]) = strCells (ss.take (k + 1)) ++ List.replicate (ss.length - (k + 1)) (Value.string ⟨#[]⟩) := by
  have hl : (strCells (ss.take k)).length = k := by simp [strCells]; omega
  rw [hm, show ss.length - (k + 1) = m by omega, List.set_append_right _ _ (by omega), hl, Nat.sub_self, List.replicate_succ, List.set_cons_zero,
    List.take_succ_eq_append_getElem h]
  unfold strCells
  rw [List.map_append, List.append_assoc]
  rfl

def ToPost (ss : List ByteArray) (w : World) (e : Ending) (w' : World) : Prop :=
  ∃ g, e = .returned (.slice (some ⟨g, 0, none⟩) ss.length ss.length) ∧ w'.ownsRow w.heap.size 9 1 (.slice (some ⟨g, 0, none⟩) ss.length ss.length) ss.length (strCells ss) ∧ Below w.heap.size w w'

set_option maxHeartbeats 1000000 in
theorem to_strs (A : Option Addr) (cap : Nat) (ss : List ByteArray) (w : World) (hn : ss.length ≤ 1048576) (hA : Lies w A (strCells ss)) :
    Calls Tryz.prog 42 #[.slice A ss.length cap] w (ToPost ss w) := by
  obtain ⟨i0, hi, hz0, hz1, hz2⟩ := info_parts Tryz.info9
  go_enter Tryz.func42, Tryz.ntmps42
  go_wp2_with (refine wpList_make_full _ rfl _ _ 22 rfl w.heap.size 9 i0 (.string ⟨#[]⟩) 1 Tryz.underlying22 hi hz0 hz1 _ _ _ _ ss.length rfl rfl rfl rfl (by rw [hz2]; omega) (by unfold maxLen; omega) (Nat.le_refl _) ?_; intro w1 hown hgrow; rw [made_strs] at hown)
  go_loopw [4] (fun i wr => ∃ k : Nat, k ≤ ss.length ∧ i = .int .i64 k ∧ wr.ownsRow w.heap.size 9 1 (.slice (some ⟨w.heap.size, 0, none⟩) ss.length ss.length) ss.length (strCells (ss.take k) ++ List.replicate (ss.length - k) (Value.string ⟨#[]⟩)) ∧ Below w.heap.size w wr) (fun i _ => ss.length - (intOf i).toNat)
  case atStart => exact ⟨0, Nat.zero_le _, rfl, by simpa [strCells] using hown, (Below.refl _ _).grown hgrow (Nat.le_refl _) (fun k e => by cases e)⟩
  case round =>
    obtain ⟨k, hk, rfl, ho, hb⟩ := hrel
    clear hown hgrow
    by_cases hlt : k < ss.length
    · obtain ⟨b, off, rfl, hlb, hck⟩ := (hA.below hb).str k hlt
      have hlen := ho.1
      have hcg : wr.cell? ⟨w.heap.size, k, none⟩ = some ((strCells (ss.take k) ++ List.replicate (ss.length - k) (Value.string ⟨#[]⟩))[k]'(by omega)) := by
        rw [ho.cellAt k (by omega)]
        exact List.getElem?_eq_getElem _
      have hfg := ho.frozenAt k
      obtain ⟨m, hm⟩ : ∃ m, ss.length - k = m + 1 := ⟨ss.length - k - 1, by omega⟩
      have hst := (ho.stored k (.string ss[k])).1
      have hsg := (ho.stored k (.string ss[k])).2
      rw [set_next ss k m hlt hm] at hst
      have B1 : Below w.heap.size w (wr.setCell ⟨w.heap.size, k, none⟩ (.string ss[k])) := hb.setCell (p := ⟨w.heap.size, k, none⟩) (Nat.le_refl _) _
      obtain ⟨y, hy⟩ : ∃ y, y = (strCells (ss.take k) ++ List.replicate (ss.length - k) (Value.string ⟨#[]⟩))[k]'(by omega) := ⟨_, rfl⟩
      rw [← hy] at hcg
      obtain ⟨x, hx⟩ : ∃ x, x = ss[k] := ⟨_, rfl⟩
      rw [← hx] at hck hst hsg B1
      clear hlen hm hy hx ho hb
      go_wp2
      go_roundw
      case rel => exact ⟨k + 1, by omega, by go_num, hst, B1⟩
      case measure => simp [intOf]; omega
    · have hke : k = ss.length := by omega
      subst hke
      rw [List.take_length, Nat.sub_self] at ho
      simp only [List.replicate_zero, List.append_nil] at ho
      go_wp2
      go_ret
      exact ⟨_, rfl, ho, hb⟩
set_option maxHeartbeats 1000000 in
theorem eq_strs (A B : Option Addr) (ca cb : Nat) (ss : List ByteArray) (w : World) (hn : ss.length ≤ 1048576) (hA : Lies w A (strCells ss)) (hB : Lies w B (strCells ss)) :
    Calls Tryz.prog 47 #[.slice A ss.length ca, .slice B ss.length cb] w fun e w' => e = .returned (.bool true) ∧ Below w.heap.size w w' := by
  have hq0 : ((ss.length : Int) != (ss.length : Int)) = false := by simp
  go_enter Tryz.func47, Tryz.ntmps47
  go_wp2
  go_loopw [5] (fun i wr => ∃ k : Nat, k ≤ ss.length ∧ i = .int .i64 k ∧ Below w.heap.size w wr) (fun i _ => ss.length - (intOf i).toNat)
  case atStart => exact ⟨0, Nat.zero_le _, rfl, Below.refl _ _⟩
  case round =>
    obtain ⟨k, hk, rfl, hb⟩ := hrel
    by_cases hlt : k < ss.length
    · obtain ⟨b, off, rfl, hlb, hck⟩ := (hA.below hb).str k hlt
      obtain ⟨b2, off2, rfl, hlb2, hck2⟩ := (hB.below hb).str k hlt
      obtain ⟨x, hx⟩ : ∃ x, x = ss[k] := ⟨_, rfl⟩
      rw [← hx] at hck hck2
      have hq : (!x.toList == x.toList) = false := by simp
      have hlt' : (k : Int) < (ss.length : Int) := by omega
      clear hx
      go_wp2_with fail
      go_quiet (fail)
      go_wp2
      go_roundw
      case rel => exact ⟨k + 1, by omega, by go_num, below_drewN hb _⟩
      case measure => simp [intOf]; omega
    · have hke : k = ss.length := by omega
      subst hke
      go_wp2
      go_ret
      exact ⟨rfl, hb⟩
def marks (a n : Nat) : List ByteArray := (List.range n).map fun i => strOf (markL (a + i))
theorem marks_len (a n : Nat) : (marks a n).length = n := by simp [marks]
theorem marks_next (a n : Nat) : marks a (n + 1) = marks a n ++ [strOf (markL (a + n))] := by simp [marks, List.range_succ]
theorem marks_at (a n k : Nat) (h : k < n) : (strCells (marks a n))[k]? = some (.string (strOf (markL (a + k)))) := by
  simp [strCells, marks, h]
theorem set_mark (a : Nat) (ss : List ByteArray) (k : Nat) (h : k < ss.length) :
    (strCells (marks a k ++ ss.drop k)).set k (.string (strOf (markL (a + k)))) = strCells (marks a (k + 1) ++ ss.drop (k + 1)) := by
  have hl : (strCells (marks a k)).length = k := by simp [strCells, marks]
  rw [marks_next, List.drop_eq_getElem_cons h]
  simp only [strCells, List.map_append, List.map_cons, List.append_assoc] at hl ⊢
  rw [List.set_append_right _ _ (by omega), hl, Nat.sub_self, List.set_cons_zero]
  rfl

def MarkPost (base : Nat) (t : TypeId) (v : Value) (a n : Nat) (w : World) (e : Ending) (w' : World) : Prop :=
  e = .returned (.int .i64 ((a : Int) + (n : Int))) ∧ w'.ownsRow base t 1 v n (strCells (marks a n)) ∧ w.grownBy w' v.ownBlock

set_option maxHeartbeats 1000000 in
theorem mark_strs (base : Nat) (t : TypeId) (A : Option Addr) (c : Nat) (ss : List ByteArray) (a : Nat) (w : World) (ha : 1 ≤ a) (hn : a + ss.length ≤ 9999999) (ho : w.ownsRow base t 1 (.slice A ss.length c) ss.length (strCells ss)) :
    Calls Tryz.prog 52 #[.slice A ss.length c, .int .i64 (a : Int)] w (MarkPost base t (.slice A ss.length c) a ss.length w) := by
  go_enter Tryz.func52, Tryz.ntmps52
  go_wp2
  go_loopg [1, 5] ss.length (fun gh m i wr => ∃ k : Nat, gh = ss.length - k ∧ k ≤ ss.length ∧ i = .int .i64 k ∧ m = .int .i64 ((a : Int) + (k : Int)) ∧ wr.ownsRow base t 1 (.slice A ss.length c) ss.length (strCells (marks a k ++ ss.drop k)) ∧ w.grownBy wr (Value.slice A ss.length c).ownBlock)
  case atStart => exact ⟨0, rfl, Nat.zero_le _, rfl, by simp, by simpa [marks] using ho, World.grownBy.refl _ _⟩
  case round =>
    clear ho
    obtain ⟨k, hg, hk, rfl, rfl, ho, hb⟩ := hrel
    have HG := Lib.hid hg
    clear hg
    by_cases hlt : k < ss.length
    · obtain ⟨g, rfl⟩ := own_addr ho (by omega)
      have hM := mark_text ((a : Int) + (k : Int)) wr (by omega) (by omega)
      rw [show ((a : Int) + (k : Int)).toNat = a + k by omega] at hM
      have hset := set_mark a ss k hlt
      obtain ⟨x, hx⟩ : ∃ x, x = strOf (markL (a + k)) := ⟨_, rfl⟩
      rw [← hx] at hM hset
      have hlt' : (k : Int) < (ss.length : Int) := by omega
      have hw1 := IntWalk.i64_in ((a : Int) + (k : Int) + 1) (by omega)
      clear hx
      go_wp2_with (go_at_call 81; refine hM.mono ?_; rintro e w1 ⟨rfl, hb1⟩; refine Hid.out ?_)
      refine Lib.hid ?_
      have ho1 := own_bel ho hb1
      have g1 := grown_trans hb (below_grown hb1 _)
      clear ho hb hM hb1
      have hlen := ho1.1
      have hcg : w1.cell? ⟨g, k, none⟩ = some ((strCells (marks a k ++ ss.drop k))[k]'(by omega)) := by
        rw [ho1.cellAt k (by omega)]
        exact List.getElem?_eq_getElem _
      have hfg := ho1.frozenAt k
      have hst := (ho1.stored k (.string x)).1
      have hsg := (ho1.stored k (.string x)).2
      rw [hset] at hst
      have G2 := grown_trans g1 hsg
      obtain ⟨y, hy⟩ : ∃ y, y = (strCells (marks a k ++ ss.drop k))[k]'(by omega) := ⟨_, rfl⟩
      rw [← hy] at hcg
      clear hlen hy ho1 g1 hset
      go_wp2_with fail
      go_roundg (ss.length - (k + 1))
      case measure => have := HG.out; omega
      case rel => exact ⟨k + 1, rfl, by omega, by go_num, by go_num, hst, G2⟩
    · have hke : k = ss.length := by omega
      subst hke
      rw [List.drop_length, List.append_nil] at ho
      go_wp2_with fail
      go_ret
      exact ⟨rfl, ho, hb⟩

set_option maxRecDepth 100000 in
set_option maxHeartbeats 1000000 in
theorem held_strs (base : Nat) (t : TypeId) (A : Option Addr) (c n a : Nat) (w : World) (ha : 1 ≤ a) (hn : a + n ≤ 9999999) (ho : w.ownsRow base t 1 (.slice A n c) n (strCells (marks a n))) :
    Calls Tryz.prog 62 #[.slice A n c, .int .i64 (a : Int)] w fun e w' => e = .returned (.int .i64 ((a : Int) + (n : Int))) ∧ Below w.heap.size w w' := by
  go_enter Tryz.func62, Tryz.ntmps62
  go_wp2
  go_loopg [1, 5] n (fun gh m i wr => ∃ k : Nat, gh = n - k ∧ k ≤ n ∧ i = .int .i64 k ∧ m = .int .i64 ((a : Int) + (k : Int)) ∧ Below w.heap.size w wr)
  case atStart => exact ⟨0, rfl, Nat.zero_le _, rfl, by simp, Below.refl _ _⟩
  case round =>
    obtain ⟨k, hg, hk, rfl, rfl, hb⟩ := hrel
    have HG := Lib.hid hg
    clear hg
    by_cases hlt : k < n
    · obtain ⟨g, rfl⟩ := own_addr ho (by omega)
      have hM := fun w => mark_text ((a : Int) + (k : Int)) w (by omega) (by omega)
      have hor := own_bel ho hb
      have hgl := (hor.lt g rfl).2
      have hck : wr.cell? ⟨g, k, none⟩ = some (.string (strOf (markL (a + k)))) := by rw [hor.cellAt k (by omega), marks_at a n k hlt]
      rw [show ((a : Int) + (k : Int)).toNat = a + k by omega] at hM
      obtain ⟨x, hx⟩ : ∃ x, x = strOf (markL (a + k)) := ⟨_, rfl⟩
      rw [← hx] at hM hck
      have hq : (!x.toList == x.toList) = false := by simp
      have hlt' : (k : Int) < (n : Int) := by omega
      have hw1 := IntWalk.i64_in ((a : Int) + (k : Int) + 1) (by omega)
      have HO := Lib.hid ho
      clear hx hor ho
      go_upto_region 4 with fail
      go_cut [18] (fun s wx => s = .bool false ∧ Below w.heap.size w wx)
      case first =>
        go_region_with (go_at_call 81; refine (hM _).mono ?_; rintro e w1 ⟨rfl, hb1⟩; have hcw : w1.cell? ⟨g, k, none⟩ = some (.string x) := (hb1.cell (p := ⟨g, k, none⟩) (by simpa using hgl)).trans hck)
        all_goals clear hM
        all_goals go_wp2_with fail
        all_goals go_meet
        all_goals exact ⟨rfl, hb.drew.trans (hb1.mono hb.size)⟩
      case rest =>
        obtain ⟨rfl, hb2⟩ := hcut
        go_wp2_with fail
        go_roundg (n - (k + 1))
        case measure => have := HG.out; omega
        case rel => exact ⟨k + 1, rfl, by omega, by go_num, by go_num, hb2⟩
    · have hke : k = n := by omega
      subst hke
      go_wp2_with fail
      go_ret
      exact ⟨rfl, hb⟩
end Sx
end Go.Proofs.YtjmfefaoenmppaaGreatDoor

namespace Go.Proofs.YtjmfefaoenmppaaGreatDoor
open Go.RowKit

/-- Where a store's rows lie. -/
structure SA where
  A : Option Addr
  a : Nat
  R : Option Addr
  r : Nat
  L : Option Addr
  l : Nat
  G : Option Addr
  g : Nat
  D : Option Addr
  d : Nat
def SA.none : SA := ⟨.none, 0, .none, 0, .none, 0, .none, 0, .none, 0⟩
def rows5 (x : SA) (s : St) : List Rw :=
  [⟨9, 1, s.rows.length, .slice x.A s.rows.length x.a, strCells s.rows⟩, ⟨3, 1, s.sp.refs.length, .slice x.R s.sp.refs.length x.r, intCells s.sp.refs⟩, ⟨3, 1, s.sp.last.length, .slice x.L s.sp.last.length x.l, intCells s.sp.last⟩,
   ⟨40, 5, s.gone.length, .slice x.G s.gone.length x.g, flat s.gone⟩, ⟨40, 5, s.dead.length, .slice x.D s.dead.length x.d, flat s.dead⟩]
/-- A store behind its addresses. -/
structure StAt (w : World) (x : SA) (s : St) : Prop where
  rows : Lies w x.A (strCells s.rows)
  sp : SpAt w x.R x.L s.sp
  gone : PArg w x.G s.gone
  dead : PArg w x.D s.dead
theorem StAt.below {w w' : World} {x : SA} {s : St} (h : StAt w x s) (hb : Below w.heap.size w w') : StAt w' x s := ⟨h.rows.below hb, h.sp.below hb, h.gone.below hb, h.dead.below hb⟩
theorem own_parg {w : World} {base n c : Nat} {A : Option Addr} {ps : List P5} (h : w.ownsRow base 40 5 (.slice A ps.length c) n (flat ps)) : PArg w A ps := by
  intro h0
  have hn : n = ps.length := by have := h.1; rw [flat_len] at this; omega
  subst hn
  obtain ⟨g, rfl⟩ := own_addr h h0
  refine ⟨g, 0, rfl, (h.lt g rfl).2, fun j hj k v hk hv => ?_⟩
  rw [Nat.zero_add, h.cellAt (j * 5 + k) (by omega), show j * 5 + k = 5 * j + k by omega, flat_at ps j k hj hk, hv]
theorem Own.at5 {w : World} {base top : Nat} {x : SA} {s : St} (h : Own w base top (rows5 x s)) : StAt w x s :=
  ⟨row_lies (h.row 0 (by simp [rows5])), ⟨row_lies (h.row 1 (by simp [rows5])), row_lies (h.row 2 (by simp [rows5]))⟩, own_parg (h.row 3 (by simp [rows5])), own_parg (h.row 4 (by simp [rows5]))⟩
/-- A store as an argument. -/
structure SBulk (s : St) : Prop where
  rows : s.rows.length ≤ 1048576
  refs : s.sp.refs.length ≤ 1048576
  last : s.sp.last.length ≤ 1048576
  gone : s.gone.length ≤ 1048576
  dead : s.dead.length ≤ 1048576
  texts : ∀ t ∈ s.rows, t.size ≤ maxLen
  txg : (Lit.int .i64 s.txg).wf = true
  keep : (Lit.int .i64 s.keep).wf = true
  nums : ∀ p ∈ s.gone ++ s.dead, (Lit.int .i64 p.a).wf = true

/-- A store is returned, in memory of the call's own. -/
def TPost (s : St) (w : World) (r : Ending) (w' : World) : Prop :=
  ∃ x : SA, r = .returned (.agg #[.slice x.A s.rows.length x.a, .slice x.R s.sp.refs.length x.r, .slice x.L s.sp.last.length x.l, .int .i64 s.txg, .slice x.G s.gone.length x.g, .int .i64 s.keep, .slice x.D s.dead.length x.d, .bool s.same]) ∧ Own w' w.heap.size w'.heap.size (rows5 x s) ∧ Below w.heap.size w w'
def TPost2 (s : St) (b : Bool) (w : World) (r : Ending) (w' : World) : Prop :=
  ∃ x : SA, r = .returned (.tuple #[(.agg #[.slice x.A s.rows.length x.a, .slice x.R s.sp.refs.length x.r, .slice x.L s.sp.last.length x.l, .int .i64 s.txg, .slice x.G s.gone.length x.g, .int .i64 s.keep, .slice x.D s.dead.length x.d, .bool s.same]), .bool b]) ∧ Own w' w.heap.size w'.heap.size (rows5 x s) ∧ Below w.heap.size w w'
def TPost3 (s : St) (p : P5) (b : Bool) (w : World) (r : Ending) (w' : World) : Prop :=
  ∃ x : SA, r = .returned (.tuple #[(.agg #[.slice x.A s.rows.length x.a, .slice x.R s.sp.refs.length x.r, .slice x.L s.sp.last.length x.l, .int .i64 s.txg, .slice x.G s.gone.length x.g, .int .i64 s.keep, .slice x.D s.dead.length x.d, .bool s.same]), .agg #[.int .i64 p.a, .int .i64 p.b, .int .i64 p.c, .int .i64 p.d, .int .i64 p.e], .bool b]) ∧ Own w' w.heap.size w'.heap.size (rows5 x s) ∧ Below w.heap.size w w'
theorem own_none (w : World) (base top : Nat) : Own w base top (rows5 SA.none noSt) := by
  refine ⟨fun r hr => ?_, ?_⟩
  · simp only [rows5, List.mem_cons, List.not_mem_nil, or_false] at hr
    rcases hr with rfl | rfl | rfl | rfl | rfl <;> exact ⟨⟨rfl, .inl ⟨rfl, rfl⟩⟩, fun k hk => by cases hk⟩
  · refine List.pairwise_iff_getElem.2 fun i j hi hj hij k hk => ?_
    have : ∀ r ∈ rows5 SA.none noSt, r.v.ownBlock = .none := by
      intro r hr
      simp only [rows5, List.mem_cons, List.not_mem_nil, or_false] at hr
      rcases hr with rfl | rfl | rfl | rfl | rfl <;> rfl
    rw [this _ (List.getElem_mem hi)] at hk
    cases hk

/-- A block of eight cells. -/
def B8 (W : World) (g : Nat) (t : TypeId) (v0 v1 v2 v3 v4 v5 v6 v7 : Value) : Prop := W.heap[g]? = some (.cells #[v0, v1, v2, v3, v4, v5, v6, v7] t (0, 0))
theorem B8.new (w : World) (t : TypeId) (v0 v1 v2 v3 v4 v5 v6 v7 : Value) : B8 (w.alloc (.cells #[v0, v1, v2, v3, v4, v5, v6, v7] t)) w.heap.size t v0 v1 v2 v3 v4 v5 v6 v7 := heap_alloc_new w _
section
variable {W W' : World} {g : Nat} {t : TypeId} {v0 v1 v2 v3 v4 v5 v6 v7 : Value}
theorem B8.lt (h : B8 W g t v0 v1 v2 v3 v4 v5 v6 v7) : g < W.heap.size := (Array.getElem?_eq_some_iff.1 h).1
theorem B8.below (h : B8 W g t v0 v1 v2 v3 v4 v5 v6 v7) (hb : Below W.heap.size W W') : B8 W' g t v0 v1 v2 v3 v4 v5 v6 v7 := (hb.block g h.lt).trans h
theorem B8.belowB {B : Nat} (h : B8 W g t v0 v1 v2 v3 v4 v5 v6 v7) (hb : Below B W W') (hg : g < B) : B8 W' g t v0 v1 v2 v3 v4 v5 v6 v7 := (hb.block g hg).trans h
theorem B8.alloc (h : B8 W g t v0 v1 v2 v3 v4 v5 v6 v7) (o : Obj) : B8 (W.alloc o) g t v0 v1 v2 v3 v4 v5 v6 v7 := (Below.heap_alloc W o g h.lt).trans h
theorem B8.drew (h : B8 W g t v0 v1 v2 v3 v4 v5 v6 v7) : B8 W.drew g t v0 v1 v2 v3 v4 v5 v6 v7 := h
theorem B8.set (h : B8 W g t v0 v1 v2 v3 v4 v5 v6 v7) {p : Addr} (hp : g ≠ p.block) (u : Value) : B8 (W.setCell p u) g t v0 v1 v2 v3 v4 v5 v6 v7 := (Below.heap_setCell W p u g hp).trans h
theorem B8.grown (h : B8 W g t v0 v1 v2 v3 v4 v5 v6 v7) {r : Option Nat} (hg : W.grownBy W' r) (hr : some g ≠ r) : B8 W' g t v0 v1 v2 v3 v4 v5 v6 v7 := (hg.block g h.lt hr).trans h
theorem B8.only {lo hi : Nat} (h : B8 W g t v0 v1 v2 v3 v4 v5 v6 v7) (hg : Only lo hi W W') (hn : ¬ (lo ≤ g ∧ g < hi)) : B8 W' g t v0 v1 v2 v3 v4 v5 v6 v7 := (hg.block g h.lt hn).trans h
theorem B8.cell (h : B8 W g t v0 v1 v2 v3 v4 v5 v6 v7) (i : Nat) : W.cell? ⟨g, i, none⟩ = (#[v0, v1, v2, v3, v4, v5, v6, v7] : Array Value)[i]? ∧ W.frozen? ⟨g, i, none⟩ = false := by
  have h' : W.heap[g]? = some (.cells #[v0, v1, v2, v3, v4, v5, v6, v7] t (0, 0)) := h
  exact ⟨by simp [World.cell?, h'], by simp [World.frozen?, h']⟩
theorem B8.cells (h : B8 W g t v0 v1 v2 v3 v4 v5 v6 v7) : (W.cell? ⟨g, 0, none⟩ = some v0 ∧ W.cell? ⟨g, 1, none⟩ = some v1 ∧ W.cell? ⟨g, 2, none⟩ = some v2 ∧ W.cell? ⟨g, 3, none⟩ = some v3 ∧ W.cell? ⟨g, 4, none⟩ = some v4 ∧ W.cell? ⟨g, 5, none⟩ = some v5 ∧ W.cell? ⟨g, 6, none⟩ = some v6 ∧ W.cell? ⟨g, 7, none⟩ = some v7) :=
  ⟨(h.cell 0).1, (h.cell 1).1, (h.cell 2).1, (h.cell 3).1, (h.cell 4).1, (h.cell 5).1, (h.cell 6).1, (h.cell 7).1⟩
theorem B8.fro (h : B8 W g t v0 v1 v2 v3 v4 v5 v6 v7) : (W.frozen? ⟨g, 0, none⟩ = false ∧ W.frozen? ⟨g, 1, none⟩ = false ∧ W.frozen? ⟨g, 2, none⟩ = false ∧ W.frozen? ⟨g, 3, none⟩ = false ∧ W.frozen? ⟨g, 4, none⟩ = false ∧ W.frozen? ⟨g, 5, none⟩ = false ∧ W.frozen? ⟨g, 6, none⟩ = false ∧ W.frozen? ⟨g, 7, none⟩ = false) :=
  ⟨(h.cell 0).2, (h.cell 1).2, (h.cell 2).2, (h.cell 3).2, (h.cell 4).2, (h.cell 5).2, (h.cell 6).2, (h.cell 7).2⟩
end

structure SzOk (s : St) (L : Int) (z : Int) : Prop where
  sum : 0 ≤ z → ((s.rows.length + s.sp.refs.length + s.sp.last.length + s.gone.length + s.dead.length : Nat) : Int) ≤ L - z
def SzP (s : St) (L : Int) (w : World) (e : Ending) (w' : World) : Prop := ∃ z : Int, e = .returned (.int .i64 z) ∧ Below w.heap.size w w' ∧ SzOk s L z

set_option maxRecDepth 100000 in
set_option maxHeartbeats 2000000 in
theorem sz_store (x : SA) (s : St) (L : Int) (w : World) (hL0 : 0 ≤ L) (hL : L ≤ 1048576) (h1 : s.rows.length ≤ maxLen) (h2 : s.sp.refs.length ≤ maxLen) (h3 : s.sp.last.length ≤ maxLen) (h4 : s.gone.length ≤ maxLen) (h5 : s.dead.length ≤ maxLen) (ht : ∀ t ∈ s.rows, t.size ≤ maxLen) (hA : Lies w x.A (strCells s.rows)) :
    Calls Tryz.prog 10 #[(.agg #[.slice x.A s.rows.length x.a, .slice x.R s.sp.refs.length x.r, .slice x.L s.sp.last.length x.l, .int .i64 s.txg, .slice x.G s.gone.length x.g, .int .i64 s.keep, .slice x.D s.dead.length x.d, .bool s.same]), .int .i64 L] w (SzP s L w) := by
  have b0 := B8.new w 28 (.slice x.A s.rows.length x.a) (.slice x.R s.sp.refs.length x.r) (.slice x.L s.sp.last.length x.l) (.int .i64 s.txg) (.slice x.G s.gone.length x.g) (.int .i64 s.keep) (.slice x.D s.dead.length x.d) (.bool s.same)
  have B0 := bel_new (Below.refl w.heap.size w) (.cells #[.slice x.A s.rows.length x.a, .slice x.R s.sp.refs.length x.r, .slice x.L s.sp.last.length x.l, .int .i64 s.txg, .slice x.G s.gone.length x.g, .int .i64 s.keep, .slice x.D s.dead.length x.d, .bool s.same] 28)
  have hS := Sx.sz_strs x.A x.a s.rows L _ hL0 hL h1 ht (hA.below B0)
  have hT := fun L2 W k1 k2 => sz_space x.R x.L x.r x.l s.sp.refs.length s.sp.last.length L2 W k1 k2 h2 h3
  have hG := fun L2 W k1 k2 => sz_ptrL x.G x.g s.gone.length L2 W k1 k2 h4
  have hD := fun L2 W k1 k2 => sz_ptrL x.D x.d s.dead.length L2 W k1 k2 h5
  clear h1 h2 h3 h4 h5 ht hA
  go_enter Tryz.func10, Tryz.ntmps10
  go_wp2_with (go_at_call 37; refine hS.mono ?_; rintro r w2 ⟨z, rfl, hb2, hz⟩; refine Hid.out ?_)
  refine Lib.hid ?_
  have B2 := bel_then B0 hb2
  have b2 := b0.below hb2
  clear hS B0 b0 hb2
  obtain ⟨x0, x1, x2, x3, x4, x5, x6, x7⟩ := b2.cells
  by_cases hzz : z < 0
  · go_wp2_with fail
    go_ret
    exact ⟨_, rfl, B2, ⟨fun h => by omega⟩⟩
  have hz := hz (by omega)
  have hT := hT z w2 (by omega) (by omega)
  go_wp2_with (go_at_call 38; refine hT.mono ?_; rintro r w3 ⟨y, rfl, hb3, hy⟩; refine Hid.out ?_)
  refine Lib.hid ?_
  have B3 := bel_then B2 hb3
  have b3 := b2.below hb3
  clear hT B2 b2 hb3 x0 x1 x2 x3 x4 x5 x6 x7
  obtain ⟨x0, x1, x2, x3, x4, x5, x6, x7⟩ := b3.cells
  by_cases hyy : y < 0
  · go_wp2_with fail
    go_ret
    exact ⟨_, rfl, B3, ⟨fun h => by omega⟩⟩
  have hy := hy (by omega)
  have hG := hG y w3 (by omega) (by omega)
  go_wp2_with (go_at_call 39; refine hG.mono ?_; rintro r w4 ⟨u, rfl, hb4, hu⟩; refine Hid.out ?_)
  refine Lib.hid ?_
  have B4 := bel_then B3 hb4
  have b4 := b3.below hb4
  clear hG B3 b3 hb4 x0 x1 x2 x3 x4 x5 x6 x7
  obtain ⟨x0, x1, x2, x3, x4, x5, x6, x7⟩ := b4.cells
  by_cases huu : u < 0
  · go_wp2_with fail
    go_ret
    exact ⟨_, rfl, B4, ⟨fun h => by omega⟩⟩
  have hu := hu (by omega)
  have hD := hD u w4 (by omega) (by omega)
  go_wp2_with (go_at_call 39; refine hD.mono ?_; rintro r w5 ⟨v, rfl, hb5, hv⟩; refine Hid.out ?_)
  refine Lib.hid ?_
  have B5 := bel_then B4 hb5
  clear hD B4 b4 hb5 x0 x1 x2 x3 x4 x5 x6 x7
  by_cases hvv : v < 0
  · go_wp2_with fail
    go_ret
    exact ⟨_, rfl, B5, ⟨fun h => by omega⟩⟩
  have hv := hv (by omega)
  go_wp2_with fail
  go_ret
  exact ⟨_, rfl, B5, ⟨fun h => by omega⟩⟩

set_option maxRecDepth 100000 in
set_option maxHeartbeats 2000000 in
theorem eq_store {x y : SA} {s : St} {b1 t1 b2 t2 : Nat} {w : World} (hs : SBulk s) (h1 : Own w b1 t1 (rows5 x s)) (h2 : Own w b2 t2 (rows5 y s)) :
    Calls Tryz.prog 15 #[(.agg #[.slice x.A s.rows.length x.a, .slice x.R s.sp.refs.length x.r, .slice x.L s.sp.last.length x.l, .int .i64 s.txg, .slice x.G s.gone.length x.g, .int .i64 s.keep, .slice x.D s.dead.length x.d, .bool s.same]), (.agg #[.slice y.A s.rows.length y.a, .slice y.R s.sp.refs.length y.r, .slice y.L s.sp.last.length y.l, .int .i64 s.txg, .slice y.G s.gone.length y.g, .int .i64 s.keep, .slice y.D s.dead.length y.d, .bool s.same])] w fun e w' => e = .returned (.bool true) ∧ Below w.heap.size w w' := by
  obtain ⟨w0, hw0⟩ : ∃ W, W = (w.alloc (.cells #[.slice x.A s.rows.length x.a, .slice x.R s.sp.refs.length x.r, .slice x.L s.sp.last.length x.l, .int .i64 s.txg, .slice x.G s.gone.length x.g, .int .i64 s.keep, .slice x.D s.dead.length x.d, .bool s.same] 38)).alloc (.cells #[.slice y.A s.rows.length y.a, .slice y.R s.sp.refs.length y.r, .slice y.L s.sp.last.length y.l, .int .i64 s.txg, .slice y.G s.gone.length y.g, .int .i64 s.keep, .slice y.D s.dead.length y.d, .bool s.same] 38) := ⟨_, rfl⟩
  have b0 := (B8.new w 38 (.slice x.A s.rows.length x.a) (.slice x.R s.sp.refs.length x.r) (.slice x.L s.sp.last.length x.l) (.int .i64 s.txg) (.slice x.G s.gone.length x.g) (.int .i64 s.keep) (.slice x.D s.dead.length x.d) (.bool s.same)).alloc (.cells #[.slice y.A s.rows.length y.a, .slice y.R s.sp.refs.length y.r, .slice y.L s.sp.last.length y.l, .int .i64 s.txg, .slice y.G s.gone.length y.g, .int .i64 s.keep, .slice y.D s.dead.length y.d, .bool s.same] 38)
  have c0 := B8.new (w.alloc (.cells #[.slice x.A s.rows.length x.a, .slice x.R s.sp.refs.length x.r, .slice x.L s.sp.last.length x.l, .int .i64 s.txg, .slice x.G s.gone.length x.g, .int .i64 s.keep, .slice x.D s.dead.length x.d, .bool s.same] 38)) 38 (.slice y.A s.rows.length y.a) (.slice y.R s.sp.refs.length y.r) (.slice y.L s.sp.last.length y.l) (.int .i64 s.txg) (.slice y.G s.gone.length y.g) (.int .i64 s.keep) (.slice y.D s.dead.length y.d) (.bool s.same)
  rw [World.size_alloc] at c0
  have B0 : Below w.heap.size w ((w.alloc (.cells #[.slice x.A s.rows.length x.a, .slice x.R s.sp.refs.length x.r, .slice x.L s.sp.last.length x.l, .int .i64 s.txg, .slice x.G s.gone.length x.g, .int .i64 s.keep, .slice x.D s.dead.length x.d, .bool s.same] 38)).alloc (.cells #[.slice y.A s.rows.length y.a, .slice y.R s.sp.refs.length y.r, .slice y.L s.sp.last.length y.l, .int .i64 s.txg, .slice y.G s.gone.length y.g, .int .i64 s.keep, .slice y.D s.dead.length y.d, .bool s.same] 38)) := bel_new (bel_new (Below.refl _ _) _) _
  have k1 := h1.below B0
  have k2 := h2.below B0
  have hS := fun W (p : Own W b1 t1 (rows5 x s)) (q : Own W b2 t2 (rows5 y s)) => Sx.eq_strs x.A y.A x.a y.a s.rows W hs.rows p.at5.rows q.at5.rows
  have hT := fun W (p : Own W b1 t1 (rows5 x s)) (q : Own W b2 t2 (rows5 y s)) => eq_space x.R x.L y.R y.L x.r x.l y.r y.l s.sp W hs.refs hs.last p.at5.sp q.at5.sp
  have hG := fun W (p : Own W b1 t1 (rows5 x s)) (q : Own W b2 t2 (rows5 y s)) => eq_ptrsO (w := W) hs.gone (p.row 3 (by simp [rows5])) (q.row 3 (by simp [rows5]))
  have hD := fun W (p : Own W b1 t1 (rows5 x s)) (q : Own W b2 t2 (rows5 y s)) => eq_ptrsO (w := W) hs.dead (p.row 4 (by simp [rows5])) (q.row 4 (by simp [rows5]))
  have n1 : (s.txg != s.txg) = false := by simp
  have n2 : (s.keep != s.keep) = false := by simp
  have n3 : (s.same != s.same) = false := by simp
  rw [← hw0] at b0 c0 B0 k1 k2
  clear h1 h2 hs
  have hS0 := hS w0 k1 k2
  clear hS
  subst hw0
  go_enter Tryz.func15, Tryz.ntmps15
  go_wp2_with (go_at_call 47; refine hS0.mono ?_; rintro r w2 ⟨rfl, hb2⟩; refine Hid.out ?_)
  refine Lib.hid ?_
  have B0 := bel_then B0 hb2
  have b0 := b0.below hb2
  have c0 := c0.below hb2
  have k1 := k1.below hb2
  have k2 := k2.below hb2
  clear hb2
  obtain ⟨x0, x1, x2, x3, x4, x5, x6, x7⟩ := b0.cells
  obtain ⟨y0, y1, y2, y3, y4, y5, y6, y7⟩ := c0.cells
  have L := hT w2 k1 k2
  go_wp2_with (go_at_call 48; refine L.mono ?_; rintro r w3 ⟨rfl, hb3⟩; refine Hid.out ?_)
  refine Lib.hid ?_
  have B0 := bel_then B0 hb3
  have b0 := b0.below hb3
  have c0 := c0.below hb3
  have k1 := k1.below hb3
  have k2 := k2.below hb3
  clear hb3
  obtain ⟨x0, x1, x2, x3, x4, x5, x6, x7⟩ := b0.cells
  obtain ⟨y0, y1, y2, y3, y4, y5, y6, y7⟩ := c0.cells
  have L := hG w3 k1 k2
  go_wp2_with (go_at_call 18; refine L.mono ?_; rintro r w4 ⟨rfl, hb4⟩; refine Hid.out ?_)
  refine Lib.hid ?_
  have B0 := bel_then B0 hb4
  have b0 := b0.below hb4
  have c0 := c0.below hb4
  have k1 := k1.below hb4
  have k2 := k2.below hb4
  clear hb4
  obtain ⟨x0, x1, x2, x3, x4, x5, x6, x7⟩ := b0.cells
  obtain ⟨y0, y1, y2, y3, y4, y5, y6, y7⟩ := c0.cells
  have L := hD w4 k1 k2
  go_wp2_with (go_at_call 18; refine L.mono ?_; rintro r w5 ⟨rfl, hb5⟩; refine Hid.out ?_)
  refine Lib.hid ?_
  have B0 := bel_then B0 hb5
  have b0 := b0.below hb5
  have c0 := c0.below hb5
  have k1 := k1.below hb5
  have k2 := k2.below hb5
  clear hb5
  obtain ⟨x0, x1, x2, x3, x4, x5, x6, x7⟩ := b0.cells
  obtain ⟨y0, y1, y2, y3, y4, y5, y6, y7⟩ := c0.cells
  go_wp2_with fail
  go_ret
  exact ⟨rfl, B0⟩
end Go.Proofs.YtjmfefaoenmppaaGreatDoor

namespace Go.Proofs.YtjmfefaoenmppaaGreatDoor
open Go.RowKit

theorem heap_put {W : World} {g : Nat} {cs : Array Value} {t : TypeId} (h : W.heap[g]? = some (.cells cs t (0, 0))) (i : Nat) (u : Value) : (W.setCell ⟨g, i, none⟩ u).heap[g]? = some (.cells (cs.setIfInBounds i u) t (0, 0)) := by
  simp [World.setCell, Array.getElem?_modify, h]
theorem B8.put0 {W : World} {g : Nat} {t : TypeId} {v0 v1 v2 v3 v4 v5 v6 v7 : Value} (h : B8 W g t v0 v1 v2 v3 v4 v5 v6 v7) (u : Value) : B8 (W.setCell ⟨g, 0, none⟩ u) g t u v1 v2 v3 v4 v5 v6 v7 := heap_put h 0 u
theorem B8.put1 {W : World} {g : Nat} {t : TypeId} {v0 v1 v2 v3 v4 v5 v6 v7 : Value} (h : B8 W g t v0 v1 v2 v3 v4 v5 v6 v7) (u : Value) : B8 (W.setCell ⟨g, 1, none⟩ u) g t v0 u v2 v3 v4 v5 v6 v7 := heap_put h 1 u
theorem B8.put2 {W : World} {g : Nat} {t : TypeId} {v0 v1 v2 v3 v4 v5 v6 v7 : Value} (h : B8 W g t v0 v1 v2 v3 v4 v5 v6 v7) (u : Value) : B8 (W.setCell ⟨g, 2, none⟩ u) g t v0 v1 u v3 v4 v5 v6 v7 := heap_put h 2 u
theorem B8.put3 {W : World} {g : Nat} {t : TypeId} {v0 v1 v2 v3 v4 v5 v6 v7 : Value} (h : B8 W g t v0 v1 v2 v3 v4 v5 v6 v7) (u : Value) : B8 (W.setCell ⟨g, 3, none⟩ u) g t v0 v1 v2 u v4 v5 v6 v7 := heap_put h 3 u
theorem B8.put4 {W : World} {g : Nat} {t : TypeId} {v0 v1 v2 v3 v4 v5 v6 v7 : Value} (h : B8 W g t v0 v1 v2 v3 v4 v5 v6 v7) (u : Value) : B8 (W.setCell ⟨g, 4, none⟩ u) g t v0 v1 v2 v3 u v5 v6 v7 := heap_put h 4 u
theorem B8.put5 {W : World} {g : Nat} {t : TypeId} {v0 v1 v2 v3 v4 v5 v6 v7 : Value} (h : B8 W g t v0 v1 v2 v3 v4 v5 v6 v7) (u : Value) : B8 (W.setCell ⟨g, 5, none⟩ u) g t v0 v1 v2 v3 v4 u v6 v7 := heap_put h 5 u
theorem B8.put6 {W : World} {g : Nat} {t : TypeId} {v0 v1 v2 v3 v4 v5 v6 v7 : Value} (h : B8 W g t v0 v1 v2 v3 v4 v5 v6 v7) (u : Value) : B8 (W.setCell ⟨g, 6, none⟩ u) g t v0 v1 v2 v3 v4 v5 u v7 := heap_put h 6 u
theorem B8.put7 {W : World} {g : Nat} {t : TypeId} {v0 v1 v2 v3 v4 v5 v6 v7 : Value} (h : B8 W g t v0 v1 v2 v3 v4 v5 v6 v7) (u : Value) : B8 (W.setCell ⟨g, 7, none⟩ u) g t v0 v1 v2 v3 v4 v5 v6 u := heap_put h 7 u
/-- A store is stored into a block of eight cells. -/
def putS (W : World) (H : Nat) (x : SA) (s : St) : World :=
  (((((((W.setCell ⟨H, 0, none⟩ (.slice x.A s.rows.length x.a)).setCell ⟨H, 1, none⟩ (.slice x.R s.sp.refs.length x.r)).setCell ⟨H, 2, none⟩ (.slice x.L s.sp.last.length x.l)).setCell ⟨H, 3, none⟩ (.int .i64 s.txg)).setCell ⟨H, 4, none⟩ (.slice x.G s.gone.length x.g)).setCell ⟨H, 5, none⟩ (.int .i64 s.keep)).setCell ⟨H, 6, none⟩ (.slice x.D s.dead.length x.d)).setCell ⟨H, 7, none⟩ (.bool s.same)
theorem putS_size (W : World) (H : Nat) (x : SA) (s : St) : (putS W H x s).heap.size = W.heap.size := by simp only [putS, size_set]
theorem putS_own {W : World} {H base top : Nat} {x y : SA} {s u : St} (h : Own W base top (rows5 y u)) (hH : H < base) : Own (putS W H x s) base top (rows5 y u) :=
  (((((((h.set hH _).set hH _).set hH _).set hH _).set hH _).set hH _).set hH _).set hH _
theorem putS_bel {W w : World} {B H : Nat} {x : SA} {s : St} (h : Below B w W) (hH : B ≤ H) : Below B w (putS W H x s) :=
  (((((((h.setCell hH _).setCell hH _).setCell hH _).setCell hH _).setCell hH _).setCell hH _).setCell hH _).setCell hH _
theorem putS_box {W : World} {H : Nat} {t : TypeId} {v0 v1 v2 v3 v4 v5 v6 v7 : Value} (h : B8 W H t v0 v1 v2 v3 v4 v5 v6 v7) (x : SA) (s : St) : B8 (putS W H x s) H t (.slice x.A s.rows.length x.a) (.slice x.R s.sp.refs.length x.r) (.slice x.L s.sp.last.length x.l) (.int .i64 s.txg) (.slice x.G s.gone.length x.g) (.int .i64 s.keep) (.slice x.D s.dead.length x.d) (.bool s.same) :=
  (((((((h.put0 _).put1 _).put2 _).put3 _).put4 _).put5 _).put6 _).put7 _
theorem putS_far {W : World} {H g : Nat} {t : TypeId} {v0 v1 v2 v3 v4 v5 v6 v7 : Value} (h : B8 W g t v0 v1 v2 v3 v4 v5 v6 v7) (hg : g ≠ H) (x : SA) (s : St) : B8 (putS W H x s) g t v0 v1 v2 v3 v4 v5 v6 v7 :=
  (((((((h.set hg _).set hg _).set hg _).set hg _).set hg _).set hg _).set hg _).set hg _
/-- .. and so it is returned. -/
structure Fin8 (w : World) (H : Nat) (x : SA) (s : St) (W : World) : Prop where
  box : B8 W H 38 (.slice x.A s.rows.length x.a) (.slice x.R s.sp.refs.length x.r) (.slice x.L s.sp.last.length x.l) (.int .i64 s.txg) (.slice x.G s.gone.length x.g) (.int .i64 s.keep) (.slice x.D s.dead.length x.d) (.bool s.same)
  own : Own W w.heap.size W.heap.size (rows5 x s)
  bel : Below w.heap.size w W
theorem Fin8.mk2 {w W : World} {H base top : Nat} {x : SA} {s : St} {t0 t1 t2 t3 t4 t5 t6 t7 : Value} (h : B8 W H 38 t0 t1 t2 t3 t4 t5 t6 t7) (hH : H < base) (hw : w.heap.size ≤ H) (ho : Own W base top (rows5 x s)) (hb : Below w.heap.size w W) : Fin8 w H x s (putS W H x s) :=
  ⟨putS_box h x s, (putS_own ho hH).at_top.base (by omega), putS_bel hb hw⟩
/-- The first row, the space's two, and those of the pointers. -/
theorem own_five {w : World} {base m1 m2 m3 top : Nat} {x : SA} {s : St} (h1 : Own w base m1 [⟨9, 1, s.rows.length, .slice x.A s.rows.length x.a, strCells s.rows⟩])
    (h2 : Own w m1 m2 [⟨3, 1, s.sp.refs.length, .slice x.R s.sp.refs.length x.r, intCells s.sp.refs⟩, ⟨3, 1, s.sp.last.length, .slice x.L s.sp.last.length x.l, intCells s.sp.last⟩])
    (h3 : Own w m2 m3 [⟨40, 5, s.gone.length, .slice x.G s.gone.length x.g, flat s.gone⟩]) (h4 : Own w m3 top [⟨40, 5, s.dead.length, .slice x.D s.dead.length x.d, flat s.dead⟩])
    (k0 : base ≤ m1) (k1 : m1 ≤ m2) (k2 : m2 ≤ m3) (k3 : m3 ≤ top) : Own w base top (rows5 x s) :=
  ((h1.more h2 (Nat.le_refl _) k0 k1).more h3 (Nat.le_refl _) (Nat.le_trans k0 k1) k2).more h4 (Nat.le_refl _) (Nat.le_trans (Nat.le_trans k0 k1) k2) k3
theorem SpOwn.two {w : World} {base : Nat} {A B : Option Addr} {c e : Nat} {s : Sp} (h : SpOwn w base (.agg #[.slice A s.refs.length c, .slice B s.last.length e]) s) :
    Own w base w.heap.size [⟨3, 1, s.refs.length, .slice A s.refs.length c, intCells s.refs⟩, ⟨3, 1, s.last.length, .slice B s.last.length e, intCells s.last⟩] := by
  obtain ⟨u1, u2, e0, h1, h2, hne⟩ := h
  simp only [Value.agg.injEq, Array.mk.injEq, List.cons.injEq, and_true] at e0
  obtain ⟨rfl, rfl⟩ := e0
  refine ⟨fun r hr => ?_, List.pairwise_pair.2 hne⟩
  simp only [List.mem_cons, List.not_mem_nil, or_false] at hr
  rcases hr with rfl | rfl
  · exact ⟨h1, fun k hk => (h1.lt k hk).2⟩
  · exact ⟨h2, fun k hk => (h2.lt k hk).2⟩

set_option maxRecDepth 100000 in
set_option maxHeartbeats 4000000 in
theorem to_store (x : SA) (s : St) (w : World) (hs : SBulk s) (hA : StAt w x s) : Calls Tryz.prog 12 #[(.agg #[.slice x.A s.rows.length x.a, .slice x.R s.sp.refs.length x.r, .slice x.L s.sp.last.length x.l, .int .i64 s.txg, .slice x.G s.gone.length x.g, .int .i64 s.keep, .slice x.D s.dead.length x.d, .bool s.same])] w (TPost s w) := by
  obtain ⟨W0, hW0⟩ : ∃ W, W = ((w.alloc (.cells #[.slice x.A s.rows.length x.a, .slice x.R s.sp.refs.length x.r, .slice x.L s.sp.last.length x.l, .int .i64 s.txg, .slice x.G s.gone.length x.g, .int .i64 s.keep, .slice x.D s.dead.length x.d, .bool s.same] 28)).alloc (.cells #[.slice none 0 0, .slice none 0 0, .slice none 0 0, .int .i64 0, .slice none 0 0, .int .i64 0, .slice none 0 0, .bool false] 38)).alloc (.cells #[.slice none 0 0, .slice none 0 0, .slice none 0 0, .int .i64 0, .slice none 0 0, .int .i64 0, .slice none 0 0, .bool false] 38) := ⟨_, rfl⟩
  have a0 := ((B8.new w 28 (.slice x.A s.rows.length x.a) (.slice x.R s.sp.refs.length x.r) (.slice x.L s.sp.last.length x.l) (.int .i64 s.txg) (.slice x.G s.gone.length x.g) (.int .i64 s.keep) (.slice x.D s.dead.length x.d) (.bool s.same)).alloc (.cells #[.slice none 0 0, .slice none 0 0, .slice none 0 0, .int .i64 0, .slice none 0 0, .int .i64 0, .slice none 0 0, .bool false] 38)).alloc (.cells #[.slice none 0 0, .slice none 0 0, .slice none 0 0, .int .i64 0, .slice none 0 0, .int .i64 0, .slice none 0 0, .bool false] 38)
  have b0 := (B8.new (w.alloc (.cells #[.slice x.A s.rows.length x.a, .slice x.R s.sp.refs.length x.r, .slice x.L s.sp.last.length x.l, .int .i64 s.txg, .slice x.G s.gone.length x.g, .int .i64 s.keep, .slice x.D s.dead.length x.d, .bool s.same] 28)) 38 (.slice none 0 0) (.slice none 0 0) (.slice none 0 0) (.int .i64 0) (.slice none 0 0) (.int .i64 0) (.slice none 0 0) (.bool false)).alloc (.cells #[.slice none 0 0, .slice none 0 0, .slice none 0 0, .int .i64 0, .slice none 0 0, .int .i64 0, .slice none 0 0, .bool false] 38)
  have c0 := B8.new ((w.alloc (.cells #[.slice x.A s.rows.length x.a, .slice x.R s.sp.refs.length x.r, .slice x.L s.sp.last.length x.l, .int .i64 s.txg, .slice x.G s.gone.length x.g, .int .i64 s.keep, .slice x.D s.dead.length x.d, .bool s.same] 28)).alloc (.cells #[.slice none 0 0, .slice none 0 0, .slice none 0 0, .int .i64 0, .slice none 0 0, .int .i64 0, .slice none 0 0, .bool false] 38)) 38 (.slice none 0 0) (.slice none 0 0) (.slice none 0 0) (.int .i64 0) (.slice none 0 0) (.int .i64 0) (.slice none 0 0) (.bool false)
  have BB : Below w.heap.size w (((w.alloc (.cells #[.slice x.A s.rows.length x.a, .slice x.R s.sp.refs.length x.r, .slice x.L s.sp.last.length x.l, .int .i64 s.txg, .slice x.G s.gone.length x.g, .int .i64 s.keep, .slice x.D s.dead.length x.d, .bool s.same] 28)).alloc (.cells #[.slice none 0 0, .slice none 0 0, .slice none 0 0, .int .i64 0, .slice none 0 0, .int .i64 0, .slice none 0 0, .bool false] 38)).alloc (.cells #[.slice none 0 0, .slice none 0 0, .slice none 0 0, .int .i64 0, .slice none 0 0, .int .i64 0, .slice none 0 0, .bool false] 38)) := bel_new (bel_new (bel_new (Below.refl _ _) _) _) _
  have sz : (((w.alloc (.cells #[.slice x.A s.rows.length x.a, .slice x.R s.sp.refs.length x.r, .slice x.L s.sp.last.length x.l, .int .i64 s.txg, .slice x.G s.gone.length x.g, .int .i64 s.keep, .slice x.D s.dead.length x.d, .bool s.same] 28)).alloc (.cells #[.slice none 0 0, .slice none 0 0, .slice none 0 0, .int .i64 0, .slice none 0 0, .int .i64 0, .slice none 0 0, .bool false] 38)).alloc (.cells #[.slice none 0 0, .slice none 0 0, .slice none 0 0, .int .i64 0, .slice none 0 0, .int .i64 0, .slice none 0 0, .bool false] 38)).heap.size = w.heap.size + 3 := by simp
  simp only [World.size_alloc] at b0 c0
  rw [← hW0] at a0 b0 c0 BB sz
  have hS := fun W (hW : Below w.heap.size w W) => Sx.to_strs x.A x.a s.rows W hs.rows (hA.rows.below hW)
  have hT := fun W (hW : Below w.heap.size w W) => to_space x.R x.L x.r x.l s.sp W hs.refs hs.last (hA.sp.below hW)
  have hG := fun W (hW : Below w.heap.size w W) => to_ptrs x.G x.g s.gone W hs.gone (hA.gone.below hW)
  have hD := fun W (hW : Below w.heap.size w W) => to_ptrs x.D x.d s.dead W hs.dead (hA.dead.below hW)
  have L := hS W0 BB
  obtain ⟨x0, x1, x2, x3, x4, x5, x6, x7⟩ := a0.cells
  obtain ⟨y0, y1, y2, y3, y4, y5, y6, y7⟩ := c0.cells
  obtain ⟨f0, f1, f2, f3, f4, f5, f6, f7⟩ := c0.fro
  clear hS hs hA
  subst hW0
  go_enter Tryz.func12, Tryz.ntmps12
  go_wp2_with (go_at_call 42; refine L.mono ?_; rintro r w2 ⟨g, rfl, ho, hb2⟩; refine Hid.out ?_)
  refine Lib.hid ?_
  have P1 := Own.one ho
  rw [sz] at P1
  have s2 := hb2.size
  rw [sz] at s2
  have BB := bel_then BB hb2
  have a1 := a0.below hb2
  have b1 := b0.below hb2
  have c1 := c0.below hb2
  clear a0 b0 c0 L hb2 ho sz x0 x1 x2 x3 x4 x5 x6 x7 y0 y1 y2 y3 y4 y5 y6 y7 f0 f1 f2 f3 f4 f5 f6 f7
  have P1 := P1.set (p := ⟨w.heap.size + 1 + 1, 0, none⟩) (Nat.lt_succ_self _) (.slice (some ⟨g, 0, none⟩) s.rows.length s.rows.length)
  have BB := BB.setCell (p := ⟨w.heap.size + 1 + 1, 0, none⟩) (by show w.heap.size ≤ w.heap.size + 1 + 1; omega) (.slice (some ⟨g, 0, none⟩) s.rows.length s.rows.length)
  have a2 := a1.set (p := ⟨w.heap.size + 1 + 1, 0, none⟩) (by show w.heap.size ≠ w.heap.size + 1 + 1; omega) (.slice (some ⟨g, 0, none⟩) s.rows.length s.rows.length)
  have b2 := b1.set (p := ⟨w.heap.size + 1 + 1, 0, none⟩) (by show w.heap.size + 1 ≠ w.heap.size + 1 + 1; omega) (.slice (some ⟨g, 0, none⟩) s.rows.length s.rows.length)
  have c2 := c1.put0 (.slice (some ⟨g, 0, none⟩) s.rows.length s.rows.length)
  have L := hT _ BB
  obtain ⟨x0, x1, x2, x3, x4, x5, x6, x7⟩ := a1.cells
  obtain ⟨y0, y1, y2, y3, y4, y5, y6, y7⟩ := c1.cells
  obtain ⟨f0, f1, f2, f3, f4, f5, f6, f7⟩ := c1.fro
  go_wp2_with (go_at_call 43; refine L.mono ?_; rintro r w3 ⟨A2, c, B2, e, rfl, ho, hb3⟩; refine Hid.out ?_)
  refine Lib.hid ?_
  have P2 := ho.two
  rw [size_set] at P2
  have P1 := P1.below hb3
  have s3 := hb3.size
  rw [size_set] at s3
  have BB := bel_then BB hb3
  have a3 := a2.below hb3
  have b3 := b2.below hb3
  have c3 := c2.below hb3
  clear a1 b1 c1 a2 b2 c2 L hT hb3 ho x0 x1 x2 x3 x4 x5 x6 x7 y0 y1 y2 y3 y4 y5 y6 y7 f0 f1 f2 f3 f4 f5 f6 f7
  obtain ⟨x0, x1, x2, x3, x4, x5, x6, x7⟩ := a3.cells
  obtain ⟨y0, y1, y2, y3, y4, y5, y6, y7⟩ := c3.cells
  obtain ⟨f0, f1, f2, f3, f4, f5, f6, f7⟩ := c3.fro
  obtain ⟨W3, hW3⟩ : ∃ W, W = ((w3.setCell ⟨w.heap.size + 1 + 1, 1, none⟩ (.slice A2 s.sp.refs.length c)).setCell ⟨w.heap.size + 1 + 1, 2, none⟩ (.slice B2 s.sp.last.length e)).setCell ⟨w.heap.size + 1 + 1, 3, none⟩ (.int .i64 s.txg) := ⟨_, rfl⟩
  have tr : ∀ {W : World} {b t : Nat} {L : List Rw}, Own W b t L → w.heap.size + 3 ≤ b → ∀ u v z : Value, Own (((W.setCell ⟨w.heap.size + 1 + 1, 1, none⟩ u).setCell ⟨w.heap.size + 1 + 1, 2, none⟩ v).setCell ⟨w.heap.size + 1 + 1, 3, none⟩ z) b t L := fun h hb u v z =>
    ((h.set (by show w.heap.size + 1 + 1 < _; omega) u).set (by show w.heap.size + 1 + 1 < _; omega) v).set (by show w.heap.size + 1 + 1 < _; omega) z
  have P1 := tr P1 (by omega) (.slice A2 s.sp.refs.length c) (.slice B2 s.sp.last.length e) (.int .i64 s.txg)
  have P2 := tr P2 (by omega) (.slice A2 s.sp.refs.length c) (.slice B2 s.sp.last.length e) (.int .i64 s.txg)
  have BB := ((BB.setCell (p := ⟨w.heap.size + 1 + 1, 1, none⟩) (by show w.heap.size ≤ w.heap.size + 1 + 1; omega) (.slice A2 s.sp.refs.length c)).setCell (p := ⟨w.heap.size + 1 + 1, 2, none⟩) (by show w.heap.size ≤ w.heap.size + 1 + 1; omega) (.slice B2 s.sp.last.length e)).setCell (p := ⟨w.heap.size + 1 + 1, 3, none⟩) (by show w.heap.size ≤ w.heap.size + 1 + 1; omega) (.int .i64 s.txg)
  have a4 := ((a3.set (p := ⟨w.heap.size + 1 + 1, 1, none⟩) (by show w.heap.size ≠ w.heap.size + 1 + 1; omega) (.slice A2 s.sp.refs.length c)).set (p := ⟨w.heap.size + 1 + 1, 2, none⟩) (by show w.heap.size ≠ w.heap.size + 1 + 1; omega) (.slice B2 s.sp.last.length e)).set (p := ⟨w.heap.size + 1 + 1, 3, none⟩) (by show w.heap.size ≠ w.heap.size + 1 + 1; omega) (.int .i64 s.txg)
  have b4 := ((b3.set (p := ⟨w.heap.size + 1 + 1, 1, none⟩) (by show w.heap.size + 1 ≠ w.heap.size + 1 + 1; omega) (.slice A2 s.sp.refs.length c)).set (p := ⟨w.heap.size + 1 + 1, 2, none⟩) (by show w.heap.size + 1 ≠ w.heap.size + 1 + 1; omega) (.slice B2 s.sp.last.length e)).set (p := ⟨w.heap.size + 1 + 1, 3, none⟩) (by show w.heap.size + 1 ≠ w.heap.size + 1 + 1; omega) (.int .i64 s.txg)
  have c4 := ((c3.put1 (.slice A2 s.sp.refs.length c)).put2 (.slice B2 s.sp.last.length e)).put3 (.int .i64 s.txg)
  have z3 : W3.heap.size = w3.heap.size := by rw [hW3]; simp
  have P2 := P2.wide (Nat.le_of_eq z3.symm)
  rw [← hW3] at P1 P2 BB a4 b4 c4
  have L := hG _ BB
  subst hW3
  clear a3 b3 c3 hG tr
  go_wp2_with (go_at_call 44; refine L.mono ?_; rintro r w4 ⟨gg, rfl, ho, hb4⟩; refine Hid.out ?_)
  refine Lib.hid ?_
  have P3 := Own.one ho
  have P1 := P1.below hb4
  have P2 := P2.below hb4
  have s4 := hb4.size
  rw [z3] at s4
  rw [z3] at P3 P2
  have BB := bel_then BB hb4
  have a5 := a4.below hb4
  have b5 := b4.below hb4
  have c5 := c4.below hb4
  clear a4 b4 c4 L hb4 ho z3 x0 x1 x2 x3 x4 x5 x6 x7 y0 y1 y2 y3 y4 y5 y6 y7 f0 f1 f2 f3 f4 f5 f6 f7
  obtain ⟨x0, x1, x2, x3, x4, x5, x6, x7⟩ := a5.cells
  obtain ⟨y0, y1, y2, y3, y4, y5, y6, y7⟩ := c5.cells
  obtain ⟨f0, f1, f2, f3, f4, f5, f6, f7⟩ := c5.fro
  obtain ⟨W4, hW4⟩ : ∃ W, W = (w4.setCell ⟨w.heap.size + 1 + 1, 4, none⟩ (.slice (some ⟨gg, 0, none⟩) s.gone.length s.gone.length)).setCell ⟨w.heap.size + 1 + 1, 5, none⟩ (.int .i64 s.keep) := ⟨_, rfl⟩
  have tr : ∀ {W : World} {b t : Nat} {L : List Rw}, Own W b t L → w.heap.size + 3 ≤ b → ∀ u v : Value, Own ((W.setCell ⟨w.heap.size + 1 + 1, 4, none⟩ u).setCell ⟨w.heap.size + 1 + 1, 5, none⟩ v) b t L := fun h hb u v =>
    (h.set (by show w.heap.size + 1 + 1 < _; omega) u).set (by show w.heap.size + 1 + 1 < _; omega) v
  have P1 := tr P1 (by omega) (.slice (some ⟨gg, 0, none⟩) s.gone.length s.gone.length) (.int .i64 s.keep)
  have P2 := tr P2 (by omega) (.slice (some ⟨gg, 0, none⟩) s.gone.length s.gone.length) (.int .i64 s.keep)
  have P3 := tr P3 (by omega) (.slice (some ⟨gg, 0, none⟩) s.gone.length s.gone.length) (.int .i64 s.keep)
  have BB := (BB.setCell (p := ⟨w.heap.size + 1 + 1, 4, none⟩) (by show w.heap.size ≤ w.heap.size + 1 + 1; omega) (.slice (some ⟨gg, 0, none⟩) s.gone.length s.gone.length)).setCell (p := ⟨w.heap.size + 1 + 1, 5, none⟩) (by show w.heap.size ≤ w.heap.size + 1 + 1; omega) (.int .i64 s.keep)
  have a6 := (a5.set (p := ⟨w.heap.size + 1 + 1, 4, none⟩) (by show w.heap.size ≠ w.heap.size + 1 + 1; omega) (.slice (some ⟨gg, 0, none⟩) s.gone.length s.gone.length)).set (p := ⟨w.heap.size + 1 + 1, 5, none⟩) (by show w.heap.size ≠ w.heap.size + 1 + 1; omega) (.int .i64 s.keep)
  have b6 := (b5.set (p := ⟨w.heap.size + 1 + 1, 4, none⟩) (by show w.heap.size + 1 ≠ w.heap.size + 1 + 1; omega) (.slice (some ⟨gg, 0, none⟩) s.gone.length s.gone.length)).set (p := ⟨w.heap.size + 1 + 1, 5, none⟩) (by show w.heap.size + 1 ≠ w.heap.size + 1 + 1; omega) (.int .i64 s.keep)
  have c6 := (c5.put4 (.slice (some ⟨gg, 0, none⟩) s.gone.length s.gone.length)).put5 (.int .i64 s.keep)
  have z4 : W4.heap.size = w4.heap.size := by rw [hW4]; simp
  rw [← hW4] at P1 P2 P3 BB a6 b6 c6
  have L := hD _ BB
  subst hW4
  clear a5 b5 c5 hD tr
  go_wp2_with (go_at_call 44; refine L.mono ?_; rintro r w5 ⟨gd, rfl, ho, hb5⟩; refine Hid.out ?_)
  refine Lib.hid ?_
  have P4 := Own.one ho
  have P1 := P1.below hb5
  have P2 := P2.below hb5
  have P3 := P3.below hb5
  have s5 := hb5.size
  rw [z4] at s5
  rw [z4] at P4
  have BB := bel_then BB hb5
  have a7 := a6.below hb5
  have b7 := b6.below hb5
  have c7 := c6.below hb5
  clear a6 b6 c6 L hb5 ho z4 x0 x1 x2 x3 x4 x5 x6 x7 y0 y1 y2 y3 y4 y5 y6 y7 f0 f1 f2 f3 f4 f5 f6 f7
  obtain ⟨x0, x1, x2, x3, x4, x5, x6, x7⟩ := a7.cells
  obtain ⟨y0, y1, y2, y3, y4, y5, y6, y7⟩ := c7.cells
  obtain ⟨f0, f1, f2, f3, f4, f5, f6, f7⟩ := c7.fro
  obtain ⟨g0, g1, g2, g3, g4, g5, g6, g7⟩ := b7.fro
  obtain ⟨q0, q1, q2, q3, q4, q5, q6, q7⟩ := b7.cells
  have OW := own_five (x := ⟨some ⟨g, 0, none⟩, s.rows.length, A2, c, B2, e, some ⟨gg, 0, none⟩, s.gone.length, some ⟨gd, 0, none⟩, s.dead.length⟩) P1 P2 P3 P4 s2 s3 s4 s5
  have FN := Fin8.mk2 ((b7.set (p := ⟨w.heap.size + 1 + 1, 6, none⟩) (by show w.heap.size + 1 ≠ w.heap.size + 1 + 1; omega) (.slice (some ⟨gd, 0, none⟩) s.dead.length s.dead.length)).set (p := ⟨w.heap.size + 1 + 1, 7, none⟩) (by show w.heap.size + 1 ≠ w.heap.size + 1 + 1; omega) (.bool s.same)) (by omega) (by omega) ((OW.set (p := ⟨w.heap.size + 1 + 1, 6, none⟩) (Nat.lt_succ_self _) (.slice (some ⟨gd, 0, none⟩) s.dead.length s.dead.length)).set (p := ⟨w.heap.size + 1 + 1, 7, none⟩) (Nat.lt_succ_self _) (.bool s.same)) ((BB.setCell (p := ⟨w.heap.size + 1 + 1, 6, none⟩) (by show w.heap.size ≤ w.heap.size + 1 + 1; omega) (.slice (some ⟨gd, 0, none⟩) s.dead.length s.dead.length)).setCell (p := ⟨w.heap.size + 1 + 1, 7, none⟩) (by show w.heap.size ≤ w.heap.size + 1 + 1; omega) (.bool s.same))
  have HF := Lib.hid FN
  clear P1 P2 P3 P4 OW BB a7 b7 c7 s2 s3 s4 s5 FN
  go_wp2_with fail
  change bodyPost Tryz.prog Tryz.f12 (TPost s w) Exit.ret _ (putS ((w5.setCell ⟨w.heap.size + 1 + 1, 6, none⟩ (.slice (some ⟨gd, 0, none⟩) s.dead.length s.dead.length)).setCell ⟨w.heap.size + 1 + 1, 7, none⟩ (.bool s.same)) (w.heap.size + 1) ⟨some ⟨g, 0, none⟩, s.rows.length, A2, c, B2, e, some ⟨gg, 0, none⟩, s.gone.length, some ⟨gd, 0, none⟩, s.dead.length⟩ s)
  have HF := HF.out
  generalize putS _ _ _ _ = WF at HF ⊢
  clear x0 x1 x2 x3 x4 x5 x6 x7 y0 y1 y2 y3 y4 y5 y6 y7 f0 f1 f2 f3 f4 f5 f6 f7 g0 g1 g2 g3 g4 g5 g6 g7 q0 q1 q2 q3 q4 q5 q6 q7
  obtain ⟨⟨q0, q1, q2, q3, q4, q5, q6, q7⟩, ho, hb⟩ := (⟨HF.box.cells, HF.own, HF.bel⟩ : _ ∧ _ ∧ _)
  exact bodyPost_ret (v := .agg #[.slice (some ⟨g, 0, none⟩) s.rows.length s.rows.length, .slice A2 s.sp.refs.length c, .slice B2 s.sp.last.length e, .int .i64 s.txg, .slice (some ⟨gg, 0, none⟩) s.gone.length s.gone.length, .int .i64 s.keep, .slice (some ⟨gd, 0, none⟩) s.dead.length s.dead.length, .bool s.same]) (by simp [results, Tryz.f12, go_sem, q0, q1, q2, q3, q4, q5, q6, q7]) rfl ⟨_, rfl, ho, hb⟩
end Go.Proofs.YtjmfefaoenmppaaGreatDoor

namespace Go.Proofs.YtjmfefaoenmppaaGreatDoor
open Go.RowKit
structure TArg (w : World) (x : SA) (s : St) : Prop where
  rows : s.rows.length ≤ maxLen
  refs : s.sp.refs.length ≤ maxLen
  last : s.sp.last.length ≤ maxLen
  gone : s.gone.length ≤ maxLen
  dead : s.dead.length ≤ maxLen
  texts : ∀ t ∈ s.rows, t.size ≤ maxLen
  wtxg : (Lit.int .i64 s.txg).wf = true
  wkeep : (Lit.int .i64 s.keep).wf = true
  nums : ∀ p ∈ s.gone ++ s.dead, (Lit.int .i64 p.a).wf = true
  at_ : StAt w x s
end Go.Proofs.YtjmfefaoenmppaaGreatDoor

namespace Go.Proofs.YtjmfefaoenmppaaGreatDoor
open Go.Joins Go.ChangeShapes Go.WideShapes Go.ChangeAt Go.RowKit Go.Deep

theorem int_one {H : Type} {enc : TypeId × Value → H} {W : World} {base : Nat} {spare : Nat → Bool} {held : Bool} {fuel : Nat} {c : Value} {y : DataW H × List MemPlace}
    (h : DataW.trod enc Tryz.prog W base spare held fuel 3 [c] = some y) : ∃ n : Int, c = .int .i64 n ∧ (Lit.int .i64 n).wf = true := by
  cases fuel with
  | zero => simp [DataW.trod] at h
  | succ fuel =>
    cases c <;> simp [DataW.trod, Tryz.underlying3] at h
    rename_i k n
    obtain ⟨⟨rfl, h2⟩, _⟩ := h
    exact ⟨n, rfl, h2⟩
theorem bool_one {H : Type} {enc : TypeId × Value → H} {W : World} {base : Nat} {spare : Nat → Bool} {held : Bool} {fuel : Nat} {c : Value} {y : DataW H × List MemPlace}
    (h : DataW.trod enc Tryz.prog W base spare held fuel 4 [c] = some y) : ∃ b : Bool, c = .bool b := by
  cases fuel with
  | zero => simp [DataW.trod] at h
  | succ fuel =>
    cases c <;> simp [DataW.trod, Tryz.underlying4] at h
    exact ⟨_, rfl⟩

theorem cells9' : Tryz.prog.cellsOf 9 = 1 := by kernel_rfl
theorem strs_of {H : Type} {enc : TypeId × Value → H} {W : World} {base : Nat} {spare : Nat → Bool} {held : Bool} {fuel : Nat} {v : Value} {x : DataW H × List MemPlace}
    (h : DataW.trod enc Tryz.prog W base spare held fuel 22 [v] = some x) :
    ∃ (A : Option Addr) (cap : Nat) (ss : List ByteArray), v = .slice A ss.length cap ∧ ss.length ≤ maxLen ∧ (∀ s ∈ ss, s.size ≤ maxLen) ∧ Lies W A (strCells ss) := by
  rcases open_strings Tryz.underlying22 Tryz.underlying9 cells9' h with ⟨hcs, _⟩ | ⟨a, len, cp, ss, hcs, _, hl, hm, hlen, _, hcell, hws⟩
  · simp only [List.cons.injEq, and_true] at hcs
    subst hcs
    exact ⟨none, 0, [], rfl, by simp, by simp, Lies.nil _ _⟩
  · simp only [List.cons.injEq, and_true] at hcs
    subst hcs
    have hle : len ≤ ss.length := by rw [hlen]; split <;> omega
    have hlt : (ss.take len).length = len := by simp; omega
    refine ⟨some a, cp, ss.take len, by rw [hlt], by rw [hlt]; omega, fun s hs => hws s (List.mem_of_mem_take hs), fun h0 => ?_⟩
    rw [strCells_len, hlt] at h0
    have hc0 := hcell 0 (by omega)
    obtain ⟨b, off, spot⟩ := a
    have hspot : spot = none := by simpa [Addr.add] using World.cell?_spot hc0
    subst hspot
    refine ⟨b, off, rfl, World.block_lt_of_cell? W (Addr.add ⟨b, off, none⟩ 0) hc0, fun j v hj => ?_⟩
    have hj2 : j < len := by
      have := (List.getElem?_eq_some_iff.1 hj).1
      rw [strCells_len, hlt] at this
      exact this
    have hcj := hcell j (by omega)
    rw [Addr.add_mid] at hcj
    rw [hcj, ← hj, strCells_at _ j (by rw [hlt]; exact hj2)]
    simp [List.getElem?_eq_getElem (show j < ss.length by omega)]

instance : Inhabited P5 := ⟨P5.zero⟩
theorem cells42 : Tryz.prog.cellsOf 30 = 5 := by kernel_rfl

set_option maxRecDepth 100000 in
theorem five_open {H : Type} {enc : TypeId × Value → H} {W : World} {base : Nat} {spare : Nat → Bool} {held : Bool} {fuel : Nat} {cs : List Value} {y : DataW H × List MemPlace}
    (h : DataW.trod enc Tryz.prog W base spare held fuel 30 cs = some y) (hl : cs.length = 5) : ∃ p : P5, cs = P5.cells p ∧ (Lit.int .i64 p.a).wf = true := by
  match cs, hl with
  | [c0, c1, c2, c3, c4], _ =>
    obtain ⟨xs, n, _, hx, _, hlen, hg⟩ := DataW.trod_struct Tryz.underlying30 h
    match xs, hlen with
    | [y0, y1, y2, y3, y4], _ =>
      have c3 : Tryz.prog.cellsOf 3 = 1 := by kernel_rfl
      obtain ⟨a, rfl, wa⟩ := int_one (by simpa [Value.cells, c3] using hg 0 _ rfl)
      obtain ⟨b, rfl, wb⟩ := int_one (by simpa [Value.cells, c3] using hg 1 _ rfl)
      obtain ⟨c, rfl, wc⟩ := int_one (by simpa [Value.cells, c3] using hg 2 _ rfl)
      obtain ⟨x, rfl, wx⟩ := int_one (by simpa [Value.cells, c3] using hg 3 _ rfl)
      obtain ⟨y, rfl, wy⟩ := int_one (by simpa [Value.cells, c3] using hg 4 _ rfl)
      exact ⟨⟨a, b, c, x, y⟩, rfl, wa⟩

set_option maxRecDepth 100000 in
theorem ptrs_of {H : Type} {enc : TypeId × Value → H} {W : World} {base : Nat} {spare : Nat → Bool} {held : Bool} {fuel l cap : Nat} {A : Option Addr} {x : DataW H × List MemPlace}
    (h : DataW.trod enc Tryz.prog W base spare held fuel 26 (Value.cells (.slice A l cap)).toList = some x) :
    ∃ ps : List P5, l = ps.length ∧ ps.length ≤ maxLen ∧ PArg W A ps ∧ ∀ p ∈ ps, (Lit.int .i64 p.a).wf = true := by
  rcases open_slice Tryz.underlying26 h with ⟨hcs, _⟩ | ⟨a, len, cp, m, n, D, Pl, hcs, _, hl, hm, hmm, _, hx⟩
  · simp [Value.cells] at hcs
    obtain ⟨rfl, rfl, rfl⟩ := hcs
    exact ⟨[], rfl, by simp, fun h => by simp at h, fun p hp => by simp at hp⟩
  · simp [Value.cells] at hcs
    obtain ⟨rfl, rfl, rfl⟩ := hcs
    have hlm : l ≤ m := by rw [hmm]; split <;> omega
    have each : ∀ i, i < l → ∃ p : P5, (∀ k v, k < 5 → (P5.cells p)[k]? = some v → W.cell? ((a.add (i * 5)).add k) = some v) ∧ (Lit.int .i64 p.a).wf = true := by
      intro i hi
      obtain ⟨cs', h1, h2⟩ := hx i (by omega)
      rw [cells42] at h1
      obtain ⟨_, hlen, hcell⟩ := World.cells?_some h1
      obtain ⟨p, hp, hw⟩ := five_open h2 hlen
      refine ⟨p, fun k v hk hv => ?_, hw⟩
      have := hcell k hk
      rw [this, hp, hv]
    obtain ⟨f, hf⟩ := choose_lt each
    refine ⟨(List.range l).map f, by simp, by simp; omega, fun h0 => ?_, fun p hp => by obtain ⟨i, hi, rfl⟩ := List.mem_map.1 hp; exact (hf i (List.mem_range.1 hi)).2⟩
    have h0' : 0 < l := by simpa using h0
    have hc0 := (hf 0 h0').1 0 (.int .i64 (f 0).a) (by decide) rfl
    obtain ⟨b, off, spot⟩ := a
    have hspot : spot = none := by simpa [Addr.add] using World.cell?_spot hc0
    subst hspot
    refine ⟨b, off, rfl, World.block_lt_of_cell? W (((⟨b, off, none⟩ : Addr).add (0 * 5)).add 0) hc0, fun j hj k v hk hv => ?_⟩
    have hj' : j < l := by simpa using hj
    have := (hf j hj').1 k v hk (by simpa using hv)
    rw [add_add] at this
    have hplain : (⟨b, off, none⟩ : Addr).add (j * 5 + k) = ⟨b, off + (j * 5 + k), none⟩ := by unfold Addr.add; split <;> simp_all
    rwa [hplain] at this

theorem ptrs_of1 {H : Type} {enc : TypeId × Value → H} {W : World} {base : Nat} {spare : Nat → Bool} {held : Bool} {fuel : Nat} {v : Value} {x : DataW H × List MemPlace}
    (h : DataW.trod enc Tryz.prog W base spare held fuel 26 [v] = some x) :
    ∃ (A : Option Addr) (cap : Nat) (ps : List P5), v = .slice A ps.length cap ∧ ps.length ≤ maxLen ∧ PArg W A ps ∧ ∀ p ∈ ps, (Lit.int .i64 p.a).wf = true := by
  have hv : ∃ A l cap, v = .slice A l cap := by
    rcases open_slice Tryz.underlying26 h with ⟨hcs, _⟩ | ⟨a, len, cp, m, n, D, Pl, hcs, _, hl, hm, hmm, _, hx⟩
    · simp at hcs; exact ⟨_, _, _, hcs⟩
    · simp at hcs; exact ⟨_, _, _, hcs⟩
  obtain ⟨A, l, cap, rfl⟩ := hv
  obtain ⟨ps, rfl, h1, h2, h3⟩ := ptrs_of (A := A) (l := l) (cap := cap) (by simpa [Value.cells] using h)
  exact ⟨A, cap, ps, rfl, h1, h2, h3⟩

set_option maxRecDepth 100000 in
set_option maxHeartbeats 2000000 in
theorem store_open {H : Type} {enc : TypeId × Value → H} {W : World} {base b0 : Nat} {spare : Nat → Bool} {held : Bool} {r : Reach} {v : Value} {d : DataW H} {p : List MemPlace}
    (hv : Value.okWide Tryz.prog W r b0 28 v) (h : DataW.Trod enc Tryz.prog W base spare held 28 v d p) : ∃ (x : SA) (s : St), v = (.agg #[.slice x.A s.rows.length x.a, .slice x.R s.sp.refs.length x.r, .slice x.L s.sp.last.length x.l, .int .i64 s.txg, .slice x.G s.gone.length x.g, .int .i64 s.keep, .slice x.D s.dead.length x.d, .bool s.same]) ∧ TArg W x s := by
  obtain ⟨cs, rfl, hsz⟩ := okWide_struct Tryz.underlying28 hv
  obtain ⟨l⟩ := cs
  match l, hsz.trans (show Tryz.prog.cellsOf 28 = 8 by kernel_rfl) with
  | [c0, c1, c2, c3, c4, c5, c6, c7], _ =>
    obtain ⟨fuel, hf⟩ := h
    obtain ⟨xs, n, _, hx, _, hlen, hg⟩ := DataW.trod_struct Tryz.underlying28 hf
    match xs, hlen with
    | [y0, y1, y2, y3, y4, y5, y6], _ =>
      have c22 : Tryz.prog.cellsOf 22 = 1 := by kernel_rfl
      have c33 : Tryz.prog.cellsOf 25 = 2 := by kernel_rfl
      have c23 : Tryz.prog.cellsOf 23 = 1 := by kernel_rfl
      have c3' : Tryz.prog.cellsOf 3 = 1 := by kernel_rfl
      have c34 : Tryz.prog.cellsOf 26 = 1 := by kernel_rfl
      have c4' : Tryz.prog.cellsOf 4 = 1 := by kernel_rfl
      obtain ⟨A, a, ts, rfl, k1, k2, k3⟩ := strs_of (by simpa [Value.cells, c22] using hg 0 _ rfl)
      have hs1 := hg 1 _ rfl
      simp [Value.cells, c33] at hs1
      obtain ⟨xs1, n1, _, hx1, _, hl1, hg1⟩ := DataW.trod_struct Tryz.underlying25 hs1
      match xs1, hl1 with
      | [z0, z1], _ =>
        obtain ⟨R, r1, rs, rfl, i1, i2, i3⟩ := ints_of (by simpa [Value.cells, c23] using hg1 0 _ rfl)
        obtain ⟨L, l1, ls, rfl, j1, j2, j3⟩ := ints_of (by simpa [Value.cells, c23] using hg1 1 _ rfl)
        obtain ⟨txg, rfl, wt⟩ := int_one (by simpa [Value.cells, c3'] using hg 2 _ rfl)
        obtain ⟨G, g1, gs, rfl, g2, g3, g4⟩ := ptrs_of1 (by simpa [Value.cells, c34] using hg 3 _ rfl)
        obtain ⟨keep, rfl, wk⟩ := int_one (by simpa [Value.cells, c3'] using hg 4 _ rfl)
        obtain ⟨D, d1, ds, rfl, d2, d3, d4⟩ := ptrs_of1 (by simpa [Value.cells, c34] using hg 5 _ rfl)
        obtain ⟨sm, rfl⟩ := bool_one (by simpa [Value.cells, c4'] using hg 6 _ rfl)
        exact ⟨⟨A, a, R, r1, L, l1, G, g1, D, d1⟩, ⟨ts, ⟨rs, ls⟩, txg, gs, keep, ds, sm⟩, rfl, k1, i1, j1, g2, d2, k2, wt, wk, fun p hp => (List.mem_append.1 hp).elim (g4 p) (d4 p), ⟨k3, ⟨i3, j3⟩, g3, d3⟩⟩
end Go.Proofs.YtjmfefaoenmppaaGreatDoor

namespace Go.Proofs.YtjmfefaoenmppaaGreatDoor
open Go.Joins Go.ChangeShapes Go.WideShapes Go.ChangeAt Go.RowKit Go.Deep

set_option maxRecDepth 100000 in
theorem ptr_open {H : Type} {enc : TypeId × Value → H} {W : World} {base b0 : Nat} {spare : Nat → Bool} {held : Bool} {r : Reach} {v : Value} {d : DataW H} {p : List MemPlace}
    (hv : Value.okWide Tryz.prog W r b0 30 v) (h : DataW.Trod enc Tryz.prog W base spare held 30 v d p) : ∃ a b c x y : Int, v = .agg #[.int .i64 a, .int .i64 b, .int .i64 c, .int .i64 x, .int .i64 y] := by
  obtain ⟨cs, rfl, hsz⟩ := okWide_struct Tryz.underlying30 hv
  obtain ⟨l⟩ := cs
  match l, hsz.trans (show Tryz.prog.cellsOf 30 = 5 by kernel_rfl) with
  | [c0, c1, c2, c3, c4], _ =>
    obtain ⟨fuel, hf⟩ := h
    obtain ⟨xs, n, _, hx, _, hlen, hg⟩ := DataW.trod_struct Tryz.underlying30 hf
    match xs, hlen with
    | [y0, y1, y2, y3, y4], _ =>
      have c3 : Tryz.prog.cellsOf 3 = 1 := by kernel_rfl
      obtain ⟨a, rfl, _⟩ := int_one (by simpa [Value.cells, c3] using hg 0 _ rfl)
      obtain ⟨b, rfl, _⟩ := int_one (by simpa [Value.cells, c3] using hg 1 _ rfl)
      obtain ⟨c, rfl, _⟩ := int_one (by simpa [Value.cells, c3] using hg 2 _ rfl)
      obtain ⟨x, rfl, _⟩ := int_one (by simpa [Value.cells, c3] using hg 3 _ rfl)
      obtain ⟨y, rfl, _⟩ := int_one (by simpa [Value.cells, c3] using hg 4 _ rfl)
      exact ⟨a, b, c, x, y, rfl⟩
end Go.Proofs.YtjmfefaoenmppaaGreatDoor

namespace Go.Proofs.YtjmfefaoenmppaaGreatDoor
open Go.RowKit

/-- What is left of R behind some pointers. -/
structure SubR (R : List Int) (pre : List P5) (xs : List Int) : Prop where
  len : xs.length = 64
  at_ : ∀ i, i < 64 → xs.getD i 0 = R.getD i 0 - ((cntAt pre (i : Int) : Nat) : Int) ∧ 0 ≤ xs.getD i 0
theorem getD_set_same {xs : List Int} {n : Nat} (h : n < xs.length) (x : Int) : (xs.set n x).getD n 0 = x := by simp [List.getD_eq_getElem?_getD, h]
theorem getD_set_other {xs : List Int} {n i : Nat} (h : n ≠ i) (x : Int) : (xs.set n x).getD i 0 = xs.getD i 0 := by simp [List.getD_eq_getElem?_getD, List.getElem?_set_ne h]
theorem SubR.next {R xs : List Int} {pre : List P5} {p : P5} {n : Nat} (h : SubR R pre xs) (hn : n < 64) (hp : p.a = (n : Int)) (hx : xs.getD n 0 ≠ 0) : SubR R (pre ++ [p]) (xs.set n (xs.getD n 0 - 1)) := by
  refine ⟨by rw [List.length_set]; exact h.len, fun i hi => ?_⟩
  have hi2 := h.at_ i hi
  have hn2 := h.at_ n hn
  rw [cntAt_snoc, hp]
  by_cases e : n = i
  · subst e
    rw [getD_set_same (by rw [h.len]; exact hn), if_pos rfl]
    omega
  · rw [getD_set_other e, if_neg (by omega)]
    omega
theorem SubR.ok {R xs : List Int} {pre : List P5} {p : P5} {n : Nat} {top : Int} (h : SubR R pre xs) (hn : n < 64) (hp : p.a = (n : Int)) : okAt R pre top p ↔ (p.ok = true ∧ p.b ≤ top ∧ xs.getD n 0 ≠ 0) := by
  have hn2 := h.at_ n hn
  unfold okAt
  rw [hp, Int.toNat_natCast]
  constructor
  · rintro ⟨h1, h2, h3⟩; exact ⟨h1, h2, by omega⟩
  · rintro ⟨h1, h2, h3⟩; exact ⟨h1, h2, by omega⟩
theorem SubR.start {R : List Int} (h : R.length = 64) (h0 : ∀ i, i < 64 → 0 ≤ R.getD i 0) : SubR R [] R := ⟨h, fun i hi => ⟨by rw [cntAt_nil]; simp, h0 i hi⟩⟩
theorem okTo_next {R : List Int} {pre L : List P5} {top : Int} {k : Nat} (h : okTo R pre L top k) (hk : okAt R (pre ++ L.take k) top (L.getD k P5.zero)) : okTo R pre L top (k + 1) := fun j hj => by
  by_cases e : j = k
  · subst e; exact hk
  · exact h j (by omega)
theorem takeB_yes {R : List Int} {pre L : List P5} {top : Int} (h : okTo R pre L top L.length) : takeB R pre L top = true := decide_eq_true h
theorem takeB_no {R : List Int} {pre L : List P5} {top : Int} {k : Nat} (hk : k < L.length) (h : ¬ okAt R (pre ++ L.take k) top (L.getD k P5.zero)) : takeB R pre L top = false := decide_eq_false (fun h2 => h (h2 k hk))
theorem PArg.grown {W W' : World} {A : Option Addr} {ps : List P5} {g : Nat} (h : PArg W A ps) (hb : W.grownBy W' (some g)) (hg : ∀ b o, A = some ⟨b, o, none⟩ → b ≠ g) : PArg W' A ps := by
  intro h0
  obtain ⟨b, off, rfl, hlt, hc⟩ := h h0
  have hne := hg b off rfl
  exact ⟨b, off, rfl, Nat.lt_of_lt_of_le hlt hb.size, fun j hj k v hk hv => (World.cell?_of_block (a := ⟨b, off + (j * 5 + k), none⟩) (hb.block b hlt (fun e => hne (by injection e)))).trans (hc j hj k v hk hv)⟩
theorem PArg.five {W : World} {A : Option Addr} {ps : List P5} (h : PArg W A ps) (k : Nat) (hk : k < ps.length) {a c d e f : Int} (hp : ps[k] = ⟨a, c, d, e, f⟩) : ∃ b off, A = some ⟨b, off, none⟩ ∧ b < W.heap.size ∧
    W.cell? ⟨b, off + k * 5, none⟩ = some (.int .i64 a) ∧ W.cell? ⟨b, off + k * 5 + 1, none⟩ = some (.int .i64 c) ∧ W.cell? ⟨b, off + k * 5 + 2, none⟩ = some (.int .i64 d) ∧ W.cell? ⟨b, off + k * 5 + 3, none⟩ = some (.int .i64 e) ∧ W.cell? ⟨b, off + k * 5 + 4, none⟩ = some (.int .i64 f) := by
  obtain ⟨b, off, rfl, hlt, hc⟩ := h (by omega)
  have hck := hc k hk
  rw [hp] at hck
  exact ⟨b, off, rfl, hlt, hck 0 _ (by decide) rfl, hck 1 _ (by decide) rfl, hck 2 _ (by decide) rfl, hck 3 _ (by decide) rfl, hck 4 _ (by decide) rfl⟩

def TakePost (base g c : Nat) (R : List Int) (pre L : List P5) (top : Int) (w : World) (r : Ending) (w' : World) : Prop :=
  r = .returned (.bool (takeB R pre L top)) ∧ w.grownBy w' (some g) ∧ (takeB R pre L top = true → ∃ ys, SubR R (pre ++ L) ys ∧ w'.ownsRow base 3 1 (.slice (some ⟨g, 0, none⟩) 64 c) 64 (intCells ys))

set_option maxRecDepth 100000 in
set_option maxHeartbeats 4000000 in
theorem impl_takeaway (base g c cc : Nat) (A : Option Addr) (R : List Int) (pre L : List P5) (top : Int) (xs : List Int) (w : World) (hR : ∀ i, i < 64 → 0 ≤ R.getD i 0 ∧ R.getD i 0 ≤ 900) (hS : SubR R pre xs) (hL : L.length ≤ 1048576)
    (ho : w.ownsRow base 3 1 (.slice (some ⟨g, 0, none⟩) 64 c) 64 (intCells xs)) (hA : PArg w A L) (hg : ∀ b o, A = some ⟨b, o, none⟩ → b ≠ g) :
    Calls Tryz.prog 118 #[.slice (some ⟨g, 0, none⟩) 64 c, .slice A L.length cc, .int .i64 top] w (TakePost base g c R pre L top w) := by
  have HR := Lib.hid hR
  have HG := Lib.hid hg
  clear hR hg
  have hgw := (ho.lt g rfl).2
  go_enter Tryz.func118, Tryz.ntmps118
  go_wp2_with fail
  go_loopw [8, 11] (fun t i wr => ∃ (k : Nat) (ys : List Int), k ≤ L.length ∧ i = .int .i64 k ∧ okTo R pre L top k ∧ SubR R (pre ++ L.take k) ys ∧ wr.ownsRow base 3 1 (.slice (some ⟨g, 0, none⟩) 64 c) 64 (intCells ys) ∧ w.grownBy wr (some g)) (fun _ i _ => L.length - (intOf i).toNat)
  case atStart => exact ⟨0, xs, Nat.zero_le _, rfl, fun j hj => absurd hj (Nat.not_lt_zero j), by simpa using hS, ho, World.grownBy.refl w (some g)⟩
  case round =>
    obtain ⟨k, ys, hk, rfl, hok, hY, hoY, GB⟩ := hrel
    clear hS ho
    have HOK := Lib.hid hok
    have HY := Lib.hid hY
    have hgr : g < wr.heap.size := Nat.lt_of_lt_of_le hgw GB.size
    have hgr1 : g < wr.heap.size + 1 := by omega
    have hgr2 : g < wr.heap.size + 1 + 1 := by omega
    clear hok hY
    by_cases hlt : k < L.length
    · have hki : (k : Int) < (L.length : Int) := by omega
      obtain ⟨a, b, cs, d, e, hp⟩ : ∃ a b cs d e, L[k] = ⟨a, b, cs, d, e⟩ := ⟨_, _, _, _, _, rfl⟩
      obtain ⟨bb, off, rfl, hlb, z0, z1, z2, z3, z4⟩ := (hA.grown GB HG.out).five k hlt hp
      have hgd : L.getD k P5.zero = ⟨a, b, cs, d, e⟩ := by rw [List.getD_eq_getElem?_getD, List.getElem?_eq_getElem hlt, Option.getD_some, hp]
      have htk : L.take (k + 1) = L.take k ++ [⟨a, b, cs, d, e⟩] := by rw [List.take_succ_eq_append_getElem hlt, hp]
      have HTK := Lib.hid htk
      have HGD := Lib.hid hgd
      have hM := fun W => m_ok a b cs d e W
      clear hp hgd htk
      have hpo : (P5.ok ⟨a, b, cs, d, e⟩) = isOk a b cs d e := rfl
      have HPO := Lib.hid hpo
      clear hpo
      cases hio : isOk a b cs d e with
      | false =>
        rw [hio] at hM
        have HNO := Lib.hid (takeB_no hlt (R := R) (pre := pre) (L := L) (top := top) (k := k) (fun h => by rw [HGD.out] at h; have := h.1; rw [HPO.out, hio] at this; cases this))
        clear hio
        go_wp2_with (go_at_call 78; refine (hM _).mono ?_; rintro r w2 ⟨rfl, rfl⟩)
        go_ret
        exact ⟨by rw [HNO.out]; rfl, GB.trans ((((World.grownBy_alloc _ _ _).trans (World.grownBy_alloc _ _ _)).trans (World.grownBy_alloc _ _ _))), by rw [HNO.out]; intro h; cases h⟩
      | true =>
        have ha := P5.ok_row (p := ⟨a, b, cs, d, e⟩) (HPO.out.trans hio)
        obtain ⟨n, hn⟩ : ∃ n : Nat, a = (n : Int) := ⟨a.toNat, by have := ha.1; simp only at this; omega⟩
        subst hn
        have hn64 : n < 64 := by have := ha.2; simp only at this; omega
        have hn64i : (n : Int) < 64 := by omega
        have HIO := Lib.hid hio
        rw [hio] at hM
        obtain ⟨x, hx⟩ : ∃ x, x = ys.getD n 0 := ⟨_, rfl⟩
        have hc := hoY.cellAt n (by omega)
        have hf := hoY.frozenAt n
        rw [intCells_at ys n (by have := HY.out.len; omega), show ys[n]'(by have := HY.out.len; omega) = x by rw [hx, List.getD_eq_getElem?_getD, List.getElem?_eq_getElem (by have := HY.out.len; omega), Option.getD_some]] at hc
        have hx9 : 0 ≤ x ∧ x ≤ 900 := by
          have h1 := HY.out.at_ n hn64
          have h2 := HR.out n hn64
          rw [← hx] at h1
          omega
        have hok := HY.out.ok (top := top) (p := ⟨n, b, cs, d, e⟩) hn64 rfl
        rw [← hx] at hok
        have HX := Lib.hid hx
        have HK := Lib.hid hok
        clear hio ha hx hok
        by_cases hb : b ≤ top
        · have hbt : ¬ top < b := by omega
          by_cases hx0 : x = 0
          · have hxx : (x == 0) = true := by simpa using hx0
            have HNO := Lib.hid (takeB_no hlt (R := R) (pre := pre) (L := L) (top := top) (k := k) (fun h => by rw [HGD.out] at h; exact (HK.out.1 h).2.2 hx0))
            clear hx0 hb
            go_wp2_with (go_at_call 78; refine (hM _).mono ?_; rintro r w2 ⟨rfl, rfl⟩)
            go_ret
            exact ⟨by rw [HNO.out]; rfl, GB.trans ((((World.grownBy_alloc _ _ _).trans (World.grownBy_alloc _ _ _)).trans (World.grownBy_alloc _ _ _))), by rw [HNO.out]; intro h; cases h⟩
          · have hxx : (x == 0) = false := by simpa using hx0
            have HSN := Lib.hid (HY.out.next (p := ⟨n, b, cs, d, e⟩) hn64 rfl (by rw [← HX.out]; exact hx0))
            have HOK2 := Lib.hid (okTo_next HOK.out (by rw [HGD.out]; exact HK.out.2 ⟨HPO.out.trans HIO.out, hb, hx0⟩))
            have hst := hoY.stored n (.int .i64 (x - 1))
            have HST := Lib.hid (((hst.1.alloc (.cells #[.int .i64 (n : Int), .int .i64 b, .int .i64 cs, .int .i64 d, .int .i64 e] 40)).alloc (.cells #[.int .i64 (n : Int), .int .i64 b, .int .i64 cs, .int .i64 d, .int .i64 e] 40)).alloc (.cells #[.int .i64 (n : Int), .int .i64 b, .int .i64 cs, .int .i64 d, .int .i64 e] 40))
            have HG2 := Lib.hid ((((GB.trans hst.2).trans (World.grownBy_alloc _ (.cells #[.int .i64 (n : Int), .int .i64 b, .int .i64 cs, .int .i64 d, .int .i64 e] 40) (some g))).trans (World.grownBy_alloc _ (.cells #[.int .i64 (n : Int), .int .i64 b, .int .i64 cs, .int .i64 d, .int .i64 e] 40) (some g))).trans (World.grownBy_alloc _ (.cells #[.int .i64 (n : Int), .int .i64 b, .int .i64 cs, .int .i64 d, .int .i64 e] 40) (some g)))
            clear hx0 hb hst
            go_wp2_with (go_at_call 78; refine (hM _).mono ?_; rintro r w2 ⟨rfl, rfl⟩)
            go_roundw
            case rel => exact ⟨k + 1, ys.set n (x - 1), by omega, by go_num, HOK2.out, by rw [HTK.out, ← List.append_assoc, HX.out]; exact HSN.out, by have := HST.out; rwa [intCells_set] at this, HG2.out⟩
            case measure => simp [intOf]; omega
        · have hbt : top < b := by omega
          have HNO := Lib.hid (takeB_no hlt (R := R) (pre := pre) (L := L) (top := top) (k := k) (fun h => by rw [HGD.out] at h; exact hb (HK.out.1 h).2.1))
          clear hb
          go_wp2_with (go_at_call 78; refine (hM _).mono ?_; rintro r w2 ⟨rfl, rfl⟩)
          go_ret
          exact ⟨by rw [HNO.out]; rfl, GB.trans ((((World.grownBy_alloc _ _ _).trans (World.grownBy_alloc _ _ _)).trans (World.grownBy_alloc _ _ _))), by rw [HNO.out]; intro h; cases h⟩
    · have hke : k = L.length := by omega
      subst hke
      have HYE := Lib.hid (takeB_yes HOK.out)
      clear hA
      go_wp2_with fail
      go_ret
      exact ⟨by rw [HYE.out]; rfl, GB, fun _ => ⟨ys, by have := HY.out; rwa [List.take_length] at this, hoY⟩⟩
end Go.Proofs.YtjmfefaoenmppaaGreatDoor

namespace Go.Proofs.YtjmfefaoenmppaaGreatDoor
open Go.RowKit

theorem run_append_of_nil {P : Program} (w : World) (base : Nat) (t ty e : TypeId) (i : TypeInfo) (size : Nat) (ht : P.underlying t = some (.slice e)) (hi : P.info? e = some i)
    (v : Value) (n : Nat) (xs : List Value) (hown : w.ownsRow base e size v n xs) (c : Nat) : (Builtin.append_ #[t, t] ty #[v, .slice none 0 c]).run P w = .ok v w := by
  rcases hown.2 with ⟨rfl, rfl⟩ | ⟨g, cap, cur, rfl, _, _, hnc, _⟩
  · simp [Builtin.append_, run_underlying ht, sizeOf, typeInfo, hi, Builtin.lenOf, Builtin.firstCells]
  · simp [Builtin.append_, run_underlying ht, sizeOf, typeInfo, hi, Builtin.lenOf, Builtin.firstCells, hnc, storeCells]
theorem run_append_lies {P : Program} (w : World) (base : Nat) (t ty e : TypeId) (i : TypeInfo) (z : Value) (size bytes : Nat) (ht : P.underlying t = some (.slice e)) (hi : P.info? e = some i) (hz : i.zero = some z)
    (hsize : i.size = size) (hby : i.bytes = bytes) (hzs : z.cells.size = size) (hsz : 0 < size)
    (v : Value) (n : Nat) (xs : List Value) (hown : w.ownsRow base e size v n xs)
    (A : Option Addr) (m c : Nat) (news : List Value) (hl : news.length = m * size) (hr : Lies w A news) (h1 : ∀ u ∈ news, u.oneCell' = true)
    (h63 : n + m ≤ maxLen) (hbytes : (n + m) * bytes ≤ 140737488355328) (hbase : base ≤ w.heap.size) :
    ∃ v' w', (Builtin.append_ #[t, t] ty #[v, .slice A m c]).run P w = .ok v' w' ∧ w'.ownsRow base e size v' (n + m) (xs ++ news) ∧ w.grownBy w' v.ownBlock := by
  rcases Nat.eq_zero_or_pos m with h0 | h0
  · subst h0
    have hn : news = [] := List.eq_nil_of_length_eq_zero (by simpa using hl)
    subst hn
    rcases A with _ | ad
    · exact ⟨v, w, run_append_of_nil w base t ty e i size ht hi v n xs hown c, by simpa using hown, World.grownBy.refl w _⟩
    · obtain ⟨v', w', hrun, h2, h3, _, h5⟩ := run_append_own_at (P := P) w base t ty e i z size bytes ht hi hz hsize hby hzs hsz v n xs hown ad 0 c [] hl (fun j u hu => by simp at hu) h1 h63 hbytes hbase
      exact ⟨v', w', hrun, h2, h3⟩
  · have hpos : 0 < news.length := by rw [hl]; exact Nat.mul_pos h0 hsz
    obtain ⟨b, off, rfl, hb, hc⟩ := hr hpos
    obtain ⟨v', w', hrun, h2, h3, _, h5⟩ := run_append_own_at (P := P) w base t ty e i z size bytes ht hi hz hsize hby hzs hsz v n xs hown ⟨b, off, none⟩ m c news hl (fun j u hu => by rw [Addr.add_mid]; exact hc j u hu) h1 h63 hbytes hbase
    exact ⟨v', w', hrun, h2, h3⟩
theorem wpList_append_lies2 {P : Program} (w : World) {ops : Array Oper} {rest : List Oper} {o : Oper} {a : Act} {Q : Exit → Act → World → Prop} (hgd : o.guard = none) (s x : Operand) (t : TypeId)
    (ho : o.op = .call { callee := .builtin .append, args := #[s, x], argTypes := #[t, t] })
    (base : Nat) (e : TypeId) (i : TypeInfo) (z : Value) (size bytes : Nat) (ht : P.underlying t = some (.slice e)) (hi : P.info? e = some i) (hz : i.zero = some z)
    (hsize : i.size = size) (hby : i.bytes = bytes) (hzs : z.cells.size = size) (hsz : 0 < size)
    (v : Value) (n : Nat) (xs : List Value) (hs : a.eval s = v) (hown : w.ownsRow base e size v n xs)
    (A : Option Addr) (m c : Nat) (news : List Value) (hx : a.eval x = .slice A m c) (hl : news.length = m * size) (hr : Lies w A news) (h1 : ∀ u ∈ news, u.oneCell' = true)
    (h63 : n + m ≤ maxLen) (hbytes : (n + m) * bytes ≤ 140737488355328) (hbase : base ≤ w.heap.size)
    (h : ∀ v' w', w'.ownsRow base e size v' (n + m) (xs ++ news) → w.grownBy w' v.ownBlock → wpList P ops Q rest (a.put o.dst v') w') : wpList P ops Q (o :: rest) a w :=
  wpList_plain hgd fun _ hK => by
    obtain ⟨v', w', hrun, h2, h3⟩ := run_append_lies (P := P) w base t o.type e i z size bytes ht hi hz hsize hby hzs hsz v n xs hown A m c news hl hr h1 h63 hbytes hbase
    unfold Oper.wp execOp
    simp only [ho, resolve, invoke, builtin, Sem.run_bind, Sem.run_pure, Result.andThen_ok, List.map_toArray, List.map_cons, List.map_nil, hs, hx, hrun]
    exact hK _ _ (h v' w' h2 h3)

def ClonePost (t : TypeId) (size n : Nat) (xs : List Value) (w : World) (r : Ending) (w' : World) : Prop :=
  ∃ A c, r = .returned (.slice A n c) ∧ w'.ownsRow w.heap.size t size (.slice A n c) n xs ∧ Below w.heap.size w w'

theorem flat_one (ps : List P5) : ∀ u ∈ flat ps, u.oneCell' = true := fun u hu => by
  obtain ⟨p, _, hp⟩ := List.mem_flatMap.1 hu
  simp only [P5.cells, List.mem_cons, List.not_mem_nil, or_false] at hp
  rcases hp with rfl | rfl | rfl | rfl | rfl <;> rfl
theorem parg_lies {W : World} {A : Option Addr} {ps : List P5} (h : PArg W A ps) : Lies W A (flat ps) := fun h0 => by
  rw [flat_len] at h0
  obtain ⟨b, off, rfl, hlt, hc⟩ := h (by omega)
  refine ⟨b, off, rfl, hlt, fun j v hj => ?_⟩
  have hjl : j < (flat ps).length := (List.getElem?_eq_some_iff.1 hj).1
  rw [flat_len] at hjl
  have h5 : j / 5 < ps.length := by omega
  have := hc (j / 5) h5 (j % 5) v (Nat.mod_lt _ (by decide)) (by rw [← flat_at ps (j / 5) (j % 5) h5 (Nat.mod_lt _ (by decide)), show 5 * (j / 5) + j % 5 = j by omega]; exact hj)
  rwa [show off + (j / 5 * 5 + j % 5) = off + j by omega] at this

set_option maxRecDepth 100000 in
set_option maxHeartbeats 2000000 in
theorem clone_strs (A : Option Addr) (c : Nat) (ss : List ByteArray) (w : World) (hn : ss.length ≤ 1048576) (hA : Lies w A (strCells ss)) :
    Calls Tryz.prog 109 #[.slice A ss.length c] w (ClonePost 9 1 ss.length (strCells ss) w) := by
  obtain ⟨i0, hi, hz0, hz1, hz2⟩ := info_parts Sx.Tryz.info9
  have q22 : ∀ (w : World) (a : Option Addr) (n c n' c' : Nat), (binOp .eql 22 (.slice a n c) (.slice none n' c')).run Tryz.prog w = .ok (.bool a.isNone) w := fun w a n c n' c' => Lib.run_eql_slice_nil w _ _ a n c n' c' Tryz.underlying22
  cases A with
  | none =>
    have h0 : ss = [] := by
      rcases Nat.eq_zero_or_pos ss.length with h | h
      · exact List.eq_nil_of_length_eq_zero h
      · obtain ⟨b, off, e, _⟩ := hA (by rw [strCells_len]; exact h)
        cases e
    subst h0
    go_enter Tryz.func109, Tryz.ntmps109
    go_wp2
    go_ret
    exact ⟨none, 0, rfl, ⟨rfl, .inl ⟨rfl, rfl⟩⟩, Below.refl _ _⟩
  | some a =>
    have hA2 := Lib.hid (hA.alloc (.cells #[] 9))
    clear hA
    go_enter Tryz.func109, Tryz.ntmps109
    go_wp2_with (at_builtin; refine wpList_append_lies2 _ rfl _ _ 22 rfl w.heap.size 9 i0 (.string ⟨#[]⟩) 1 16 Tryz.underlying22 hi hz0 hz1 hz2 rfl (by decide) _ _ _ rfl (World.ownsRow_made w #[] 0 (Nat.le_refl _) (Nat.zero_le _) rfl) (some a) ss.length c (strCells ss) rfl (by rw [strCells_len, Nat.mul_one]) hA2.out (strCells_one ss) (by unfold maxLen; omega) (by omega) (by simp) ?_)
    intro v' w1 hown hgrow
    obtain ⟨A', c', rfl, _⟩ := own_lies hown
    go_wp2
    go_ret
    exact ⟨A', c', rfl, hown, ((Below.refl _ w).alloc (Nat.le_refl _) _).grown hgrow (by simp) (by intro k hk; simp [Value.ownBlock] at hk; omega)⟩

set_option maxRecDepth 100000 in
set_option maxHeartbeats 2000000 in
theorem clone_ints (A : Option Addr) (c : Nat) (ss : List Int) (w : World) (hn : ss.length ≤ 1048576) (hA : Lies w A (intCells ss)) :
    Calls Tryz.prog 110 #[.slice A ss.length c] w (ClonePost 3 1 ss.length (intCells ss) w) := by
  obtain ⟨i0, hi, hz0, hz1, hz2⟩ := info_parts Tryz.info3
  have q22 : ∀ (w : World) (a : Option Addr) (n c n' c' : Nat), (binOp .eql 23 (.slice a n c) (.slice none n' c')).run Tryz.prog w = .ok (.bool a.isNone) w := fun w a n c n' c' => Lib.run_eql_slice_nil w _ _ a n c n' c' Tryz.underlying23
  cases A with
  | none =>
    have h0 : ss = [] := by
      rcases Nat.eq_zero_or_pos ss.length with h | h
      · exact List.eq_nil_of_length_eq_zero h
      · obtain ⟨b, off, e, _⟩ := hA (by rw [intCells_len]; exact h)
        cases e
    subst h0
    go_enter Tryz.func110, Tryz.ntmps110
    go_wp2
    go_ret
    exact ⟨none, 0, rfl, ⟨rfl, .inl ⟨rfl, rfl⟩⟩, Below.refl _ _⟩
  | some a =>
    have hA2 := Lib.hid (hA.alloc (.cells #[] 3))
    clear hA
    go_enter Tryz.func110, Tryz.ntmps110
    go_wp2_with (at_builtin; refine wpList_append_lies2 _ rfl _ _ 23 rfl w.heap.size 3 i0 (.int .i64 0) 1 8 Tryz.underlying23 hi hz0 hz1 hz2 rfl (by decide) _ _ _ rfl (World.ownsRow_made w #[] 0 (Nat.le_refl _) (Nat.zero_le _) rfl) (some a) ss.length c (intCells ss) rfl (by rw [intCells_len, Nat.mul_one]) hA2.out (intCells_one ss) (by unfold maxLen; omega) (by omega) (by simp) ?_)
    intro v' w1 hown hgrow
    obtain ⟨A', c', rfl, _⟩ := own_lies hown
    go_wp2
    go_ret
    exact ⟨A', c', rfl, hown, ((Below.refl _ w).alloc (Nat.le_refl _) _).grown hgrow (by simp) (by intro k hk; simp [Value.ownBlock] at hk; omega)⟩

set_option maxRecDepth 100000 in
set_option maxHeartbeats 2000000 in
theorem clone_ptrs (A : Option Addr) (c : Nat) (ss : List P5) (w : World) (hn : ss.length ≤ 1048576) (hA : Lies w A (flat ss)) :
    Calls Tryz.prog 111 #[.slice A ss.length c] w (ClonePost 40 5 ss.length (flat ss) w) := by
  obtain ⟨i0, hi, hz0, hz1, hz2⟩ := info_parts Tryz.info40
  have q22 : ∀ (w : World) (a : Option Addr) (n c n' c' : Nat), (binOp .eql 36 (.slice a n c) (.slice none n' c')).run Tryz.prog w = .ok (.bool a.isNone) w := fun w a n c n' c' => Lib.run_eql_slice_nil w _ _ a n c n' c' Tryz.underlying36
  cases A with
  | none =>
    have h0 : ss = [] := by
      rcases Nat.eq_zero_or_pos ss.length with h | h
      · exact List.eq_nil_of_length_eq_zero h
      · obtain ⟨b, off, e, _⟩ := hA (by rw [flat_len]; omega)
        cases e
    subst h0
    go_enter Tryz.func111, Tryz.ntmps111
    go_wp2
    go_ret
    exact ⟨none, 0, rfl, ⟨rfl, .inl ⟨rfl, rfl⟩⟩, Below.refl _ _⟩
  | some a =>
    have hA2 := Lib.hid (hA.alloc (.cells #[] 40))
    clear hA
    go_enter Tryz.func111, Tryz.ntmps111
    go_wp2_with (at_builtin; refine wpList_append_lies2 _ rfl _ _ 36 rfl w.heap.size 40 i0 (.agg #[.int .i64 0, .int .i64 0, .int .i64 0, .int .i64 0, .int .i64 0]) 5 40 Tryz.underlying36 hi hz0 hz1 hz2 rfl (by decide) _ _ _ rfl (World.ownsRow_made w #[] 0 (Nat.le_refl _) (Nat.zero_le _) rfl) (some a) ss.length c (flat ss) rfl (by rw [flat_len]; omega) hA2.out (flat_one ss) (by unfold maxLen; omega) (by omega) (by simp) ?_)
    intro v' w1 hown hgrow
    obtain ⟨A', c', rfl, _⟩ := own_lies hown
    go_wp2
    go_ret
    exact ⟨A', c', rfl, hown, ((Below.refl _ w).alloc (Nat.le_refl _) _).grown hgrow (by simp) (by intro k hk; simp [Value.ownBlock] at hk; omega)⟩

end Go.Proofs.YtjmfefaoenmppaaGreatDoor

namespace Go.Proofs.YtjmfefaoenmppaaGreatDoor
open Go.RowKit

theorem run_append_five {P : Program} (w : World) (base : Nat) (t ty e : TypeId) (i : TypeInfo) (z : Value) (size bytes : Nat) (ht : P.underlying t = some (.slice e)) (hi : P.info? e = some i) (hz : i.zero = some z)
    (hsize : i.size = size) (hby : i.bytes = bytes) (hzs : z.cells.size = size) (hsz : 0 < size)
    (v : Value) (n : Nat) (xs : List Value) (hown : w.ownsRow base e size v n xs)
    (A : Option Addr) (m c : Nat) (news : List Value) (hm : 0 < m) (hl : news.length = m * size) (hr : Lies w A news) (h1 : ∀ u ∈ news, u.oneCell' = true)
    (h63 : n + m ≤ maxLen) (hbytes : (n + m) * bytes ≤ 140737488355328) (hbase : base ≤ w.heap.size) :
    ∃ v' w', (Builtin.append_ #[t, t] ty #[v, .slice A m c]).run P w = .ok v' w' ∧ w'.ownsRow base e size v' (n + m) (xs ++ news) ∧ w.grownBy w' v.ownBlock ∧ (v'.ownBlock = v.ownBlock ∨ v'.ownBlock = some w.heap.size) := by
  have hpos : 0 < news.length := by rw [hl]; exact Nat.mul_pos hm hsz
  obtain ⟨b, off, rfl, hb, hc⟩ := hr hpos
  obtain ⟨v', w', hrun, h2, h3, _, h5⟩ := run_append_own_at (P := P) w base t ty e i z size bytes ht hi hz hsize hby hzs hsz v n xs hown ⟨b, off, none⟩ m c news hl (fun j u hu => by rw [Addr.add_mid]; exact hc j u hu) h1 h63 hbytes hbase
  exact ⟨v', w', hrun, h2, h3, h5⟩
theorem wpList_append_five {P : Program} (w : World) {ops : Array Oper} {rest : List Oper} {o : Oper} {a : Act} {Q : Exit → Act → World → Prop} (hgd : o.guard = none) (s x : Operand) (t : TypeId)
    (ho : o.op = .call { callee := .builtin .append, args := #[s, x], argTypes := #[t, t] })
    (base : Nat) (e : TypeId) (i : TypeInfo) (z : Value) (size bytes : Nat) (ht : P.underlying t = some (.slice e)) (hi : P.info? e = some i) (hz : i.zero = some z)
    (hsize : i.size = size) (hby : i.bytes = bytes) (hzs : z.cells.size = size) (hsz : 0 < size)
    (v : Value) (n : Nat) (xs : List Value) (hs : a.eval s = v) (hown : w.ownsRow base e size v n xs)
    (A : Option Addr) (m c : Nat) (news : List Value) (hm : 0 < m) (hx : a.eval x = .slice A m c) (hl : news.length = m * size) (hr : Lies w A news) (h1 : ∀ u ∈ news, u.oneCell' = true)
    (h63 : n + m ≤ maxLen) (hbytes : (n + m) * bytes ≤ 140737488355328) (hbase : base ≤ w.heap.size)
    (h : ∀ v' w', w'.ownsRow base e size v' (n + m) (xs ++ news) → w.grownBy w' v.ownBlock → (v'.ownBlock = v.ownBlock ∨ v'.ownBlock = some w.heap.size) → wpList P ops Q rest (a.put o.dst v') w') : wpList P ops Q (o :: rest) a w :=
  wpList_plain hgd fun _ hK => by
    obtain ⟨v', w', hrun, h2, h3, h5⟩ := run_append_five (P := P) w base t o.type e i z size bytes ht hi hz hsize hby hzs hsz v n xs hown A m c news hm hl hr h1 h63 hbytes hbase
    unfold Oper.wp execOp
    simp only [ho, resolve, invoke, builtin, Sem.run_bind, Sem.run_pure, Result.andThen_ok, List.map_toArray, List.map_cons, List.map_nil, hs, hx, hrun]
    exact hK _ _ (h v' w' h2 h3 h5)
end Go.Proofs.YtjmfefaoenmppaaGreatDoor

namespace Go.Proofs.YtjmfefaoenmppaaGreatDoor
open Go.Maps (Keyed)

def encU (u : Int × Int) : DataW Unit := .agg [.lit (.int .i64 u.1), .lit (.int .i64 u.2)]
theorem encU_inj {a b : Int × Int} (h : encU a = encU b) : a = b := by
  simp [encU] at h
  exact Prod.ext h.1 h.2
def rdU : Value → Option (DataW Unit × List MemPlace)
  | .agg cs => match cs.toList with
    | [.int .i64 a, .int .i64 b] => some (encU (a, b), [])
    | _ => none
  | _ => none
theorem rdU_mk (a b : Int) : rdU (.agg #[.int .i64 a, .int .i64 b]) = some (encU (a, b), []) := rfl
theorem rdU_inv {v : Value} {y : DataW Unit × List MemPlace} (h : rdU v = some y) : ∃ u : Int × Int, v = .agg #[.int .i64 u.1, .int .i64 u.2] ∧ y = (encU u, []) := by
  unfold rdU at h
  split at h
  · rename_i cs
    split at h
    · rename_i a b e
      cases h
      refine ⟨(a, b), ?_, rfl⟩
      cases cs
      simp only at e
      rw [e]
    · cases h
  · cases h

/-- The types of such a map. -/
structure MTy (P : Program) (t k e : TypeId) : Prop where
  ht : P.underlying t = some (.map k e)
  hk : P.underlying k = some (.int .i64)
  hz : ∀ w, (zeroValue e).run P w = .ok (.agg #[.int .i64 0, .int .i64 0]) w

/-- D tells U. -/
structure Tells (D : DataW Unit) (U : Us) : Prop where
  len : U.length = 64
  cnt : Maps.size D = cntU U
  at_ : ∀ n : Int, D.atKey (.int .i64 n) (encU (0, 0)) = encU (useAt U n)
  has : ∀ n : Int, Maps.has D (.int .i64 n) = decide (useAt U n ≠ (0, 0))

/-- Block b is a map that tells U. -/
def UMap (w : World) (P : Program) (k : TypeId) (b : Nat) (U : Us) : Prop := ∃ D, w.ownsMap P k rdU b 64 D ∧ Tells D U

theorem cnt_le (U : Us) : cntU U ≤ U.length := by unfold cntU; exact List.length_filter_le _ _
theorem useAt_out {U : Us} (h : U.length = 64) {n : Int} (hn : useAt U n ≠ (0, 0)) : 0 ≤ n ∧ n < 64 := by
  unfold useAt at hn
  split at hn
  · refine ⟨by assumption, ?_⟩
    by_cases h1 : n.toNat < 64
    · omega
    · exfalso
      apply hn
      rw [List.getD_eq_getElem?_getD, List.getElem?_eq_none (by omega)]
      rfl
  · exact absurd rfl hn
theorem own_fit {w : World} {P : Program} {k : TypeId} {R : Value → Option (DataW Unit × List MemPlace)} {b n m : Nat} {D : DataW Unit} (h : w.ownsMap P k R b n D) (hm : Maps.size D ≤ m) : w.ownsMap P k R b m D := by
  obtain ⟨es, clock, hb, F, hs, rfl⟩ := h
  refine ⟨es, clock, hb, F, ?_, rfl⟩
  have : Maps.size (DataW.map ((es.toList.map (WideElems.rg P k R)).foldr DataW.insert [])) = es.size := by simp [Maps.size, length_sorted]
  omega

section
variable {P : Program} {t k e : TypeId} {w : World} {b : Nat} {U : Us}

theorem UMap.lt (h : UMap w P k b U) : b < w.heap.size := by obtain ⟨D, h, _⟩ := h; exact h.lt
theorem UMap.len (h : UMap w P k b U) : U.length = 64 := by obtain ⟨D, _, h⟩ := h; exact h.len
theorem UMap.below {w' : World} (h : UMap w P k b U) (hb : Go.RowKit.Below w.heap.size w w') : UMap w' P k b U := by
  obtain ⟨D, h, hD⟩ := h
  exact ⟨D, h.kept (row := none) ⟨hb.os, hb.tape, hb.output, hb.size, fun k hk _ => hb.block k hk⟩ (by simp), hD⟩
theorem UMap.set {a : Addr} (h : UMap w P k b U) (ha : b ≠ a.block) (u : Value) : UMap (w.setCell a u) P k b U := by
  obtain ⟨D, h, hD⟩ := h
  exact ⟨D, h.setCell ha u, hD⟩
theorem UMap.grown {w' : World} {r : Option Nat} (h : UMap w P k b U) (hg : w.grownBy w' r) (hr : some b ≠ r) : UMap w' P k b U := by
  obtain ⟨D, h, hD⟩ := h
  exact ⟨D, h.kept hg hr, hD⟩

theorem UMap.made (w : World) (P : Program) (k : TypeId) : UMap (w.alloc (.map #[] 0)) P k w.heap.size zeroU :=
  ⟨.map [], own_fit (World.ownsMap_made w P k rdU) (by simp [Maps.size]), ⟨zeroU_len, by rw [cnt_zero]; rfl, fun n => by rw [useAt_zero]; rfl, fun n => by rw [useAt_zero]; rfl⟩⟩

/-- 'm[n]'. -/
theorem UMap.look (h : UMap w P k b U) (T : MTy P t k e) {n : Int} (hw : (Lit.int .i64 n).wf = true) :
    (Instr.lookup t (.map (some b)) (.int .i64 n) false).run P w = .ok (.agg #[.int .i64 (useAt U n).1, .int .i64 (useAt U n).2]) w := by
  obtain ⟨D, h, hD⟩ := h
  obtain ⟨v, ps, hrun, hv⟩ := h.lookup (Maps.int_keyed T.hk) T.ht (T.hz w) (rdU_mk 0 0) (Maps.keyOf_int_mk T.hk hw)
  obtain ⟨u, rfl, hu⟩ := rdU_inv hv
  have e1 := congrArg Prod.fst hu
  simp only at e1
  rw [hD.at_] at e1
  rw [encU_inj e1]
  exact hrun

/-- 'len(m)'. -/
theorem UMap.count (h : UMap w P k b U) (T : MTy P t k e) (ty : TypeId) : (Builtin.len_ #[t] ty #[.map (some b)]).run P w = .ok (.int .i64 (cntU U)) w := by
  obtain ⟨D, h, hD⟩ := h
  rw [h.len T.ht ty, hD.cnt]

theorem tells_put {D : DataW Unit} (hD : Tells D U) (hi : Maps.Tidy D) {n : Int} (h0 : 0 ≤ n) (h1 : n < 64) {u : Int × Int} (hu : u ≠ (0, 0)) : Tells (D.put (.int .i64 n) (encU u)) (U.set n.toNat u) := by
  have hl : n.toNat < U.length := by rw [hD.len]; omega
  have hat : U.getD n.toNat (0, 0) = useAt U n := by unfold useAt; rw [if_pos h0]
  refine ⟨by simp [hD.len], ?_, fun m => ?_, fun m => ?_⟩
  · have := cnt_set U n.toNat u hl
    rw [if_neg hu, hat] at this
    rw [Maps.size_put hi, hD.has, hD.cnt]
    by_cases hz : useAt U n = (0, 0)
    · rw [if_pos hz] at this
      simp [hz]
      omega
    · rw [if_neg hz] at this
      simp [hz]
      omega
  · by_cases hm : m = n
    · subst hm
      rw [Maps.atKey_put_same hi.isMap (k := .int .i64 m) trivial, useAt_set_same h0 hl]
    · rw [Maps.atKey_put_other (by simpa using hm), hD.at_, useAt_set_other h0 hm]
  · by_cases hm : m = n
    · subst hm
      rw [Maps.has_put_same hi.isMap (k := .int .i64 m) trivial, useAt_set_same h0 hl]
      simp [hu]
    · rw [Maps.has_put_other (by simpa using hm), hD.has, useAt_set_other h0 hm]

theorem tells_del {D : DataW Unit} (hD : Tells D U) (hi : Maps.Tidy D) {n : Int} (h0 : 0 ≤ n) (h1 : n < 64) : Tells (D.del (.int .i64 n)) (U.set n.toNat (0, 0)) := by
  have hl : n.toNat < U.length := by rw [hD.len]; omega
  have hat : U.getD n.toNat (0, 0) = useAt U n := by unfold useAt; rw [if_pos h0]
  refine ⟨by simp [hD.len], ?_, fun m => ?_, fun m => ?_⟩
  · have := cnt_set U n.toNat (0, 0) hl
    rw [if_pos rfl, hat] at this
    have h2 := Maps.size_del (k := .int .i64 n) hi
    rw [hD.has, hD.cnt] at h2
    by_cases hz : useAt U n = (0, 0)
    · rw [if_pos hz] at this
      simp [hz] at h2
      omega
    · rw [if_neg hz] at this
      simp [hz] at h2
      omega
  · by_cases hm : m = n
    · subst hm
      rw [Maps.atKey_del_same, useAt_set_same h0 hl]
    · rw [Maps.atKey_del_other (by simpa using hm), hD.at_, useAt_set_other h0 hm]
  · by_cases hm : m = n
    · subst hm
      rw [Maps.has_del_same, useAt_set_same h0 hl]
      simp
    · rw [Maps.has_del_other (by simpa using hm), hD.has, useAt_set_other h0 hm]

/-- 'm[n] = u'. -/
theorem UMap.put (h : UMap w P k b U) (T : MTy P t k e) {n : Int} (h0 : 0 ≤ n) (h1 : n < 64) {u : Int × Int} (hu : u ≠ (0, 0)) :
    ∃ w', (Instr.mapUpdate t (.map (some b)) (.int .i64 n) (.agg #[.int .i64 u.1, .int .i64 u.2])).run P w = .ok () w' ∧ UMap w' P k b (U.set n.toNat u) ∧ w.grownBy w' (some b) := by
  obtain ⟨D, h, hD⟩ := h
  obtain ⟨w', hrun, r1, r2⟩ := h.update (Maps.int_keyed T.hk) T.ht (by unfold maxLen; omega) (Maps.keyOf_int_mk T.hk (a := n) (WalkArith.wf_i64 (by omega))) (rdU_mk u.1 u.2)
  have hT := tells_put hD (h.tidy (Maps.int_keyed T.hk)) h0 h1 hu
  refine ⟨w', hrun, ⟨_, own_fit r1 ?_, hT⟩, r2⟩
  rw [hT.cnt]
  have := cnt_le (U.set n.toNat u)
  rw [hT.len] at this
  exact this

/-- 'delete(m, n)'. -/
theorem UMap.del (h : UMap w P k b U) (T : MTy P t k e) {n : Int} (h0 : 0 ≤ n) (h1 : n < 64) (ty : TypeId) :
    ∃ w', (Builtin.delete_ #[t, k] ty #[.map (some b), .int .i64 n]).run P w = .ok (.tuple #[]) w' ∧ UMap w' P k b (U.set n.toNat (0, 0)) ∧ w.grownBy w' (some b) := by
  obtain ⟨D, h, hD⟩ := h
  obtain ⟨w', hrun, r1, r2⟩ := h.drop (Maps.int_keyed T.hk) T.ht (Maps.keyOf_int_mk T.hk (a := n) (WalkArith.wf_i64 (by omega))) ty
  exact ⟨w', hrun, ⟨_, r1, tells_del hD (h.tidy (Maps.int_keyed T.hk)) h0 h1⟩, r2.grown⟩

/-- A range over such a map is under way: L is what has come so far. -/
def URange (w : World) (P : Program) (k : TypeId) (b r : Nat) (U L : Us) : Prop :=
  ∃ D left cnt, w.ranges P k rdU b r 64 D left cnt ∧ Tells D U ∧ L.length = 64 ∧ ∀ n : Int, (useAt L n = (0, 0) ∧ left (.int .i64 n) = decide (useAt U n ≠ (0, 0))) ∨ (useAt L n = useAt U n ∧ left (.int .i64 n) = false)

theorem URange.start (h : UMap w P k b U) (T : MTy P t k e) : ∃ w', (Instr.range t (.map (some b))).run P w = .ok (.pointer (some ⟨w.heap.size, 0, none⟩)) w' ∧ URange w' P k b w.heap.size U zeroU ∧ w.grownBy w' none ∧ w'.heap.size = w.heap.size + 1 := by
  obtain ⟨D, h, hD⟩ := h
  obtain ⟨w', hrun, h1, h2, h3⟩ := h.range (Maps.int_keyed T.hk) T.ht
  exact ⟨w', hrun, ⟨D, _, _, h1, hD, zeroU_len, fun n => .inl ⟨useAt_zero n, hD.has n⟩⟩, h2, h3⟩

theorem us_ext {U L : Us} (hU : U.length = 64) (hL : L.length = 64) (h : ∀ n : Int, useAt L n = useAt U n) : L = U := by
  apply List.ext_getElem (by omega)
  intro i h1 h2
  have := h (i : Int)
  rw [useAt_nat, useAt_nat, List.getD_eq_getElem?_getD, List.getD_eq_getElem?_getD, List.getElem?_eq_getElem h1, List.getElem?_eq_getElem h2] at this
  simpa using this

theorem URange.next {r : Nat} {L : Us} (h : URange w P k b r U L) (T : MTy P t k e) (ty : TypeId) :
    (L = U ∧ (Instr.next (.pointer (some ⟨r, 0, none⟩)) false ty).run P w = .ok (.tuple #[.bool false]) w) ∨
    ∃ (n : Int) (u : Int × Int) (w' : World), 0 ≤ n ∧ n < 64 ∧ u = useAt U n ∧ u ≠ (0, 0) ∧ (Instr.next (.pointer (some ⟨r, 0, none⟩)) false ty).run P w = .ok (.tuple #[.bool true, .int .i64 n, .agg #[.int .i64 u.1, .int .i64 u.2]]) w' ∧
      URange w' P k b r U (L.set n.toNat u) ∧ w'.rangeLeft b r < w.rangeLeft b r ∧ w.grownBy w' (some r) ∧ w'.heap.size = w.heap.size ∧
      (Instr.entry (.pointer (some ⟨r, 0, none⟩))).run P w' = .ok (.tuple #[.int .i64 n, .agg #[.int .i64 u.1, .int .i64 u.2]]) w' := by
  obtain ⟨D, left, cnt, h, hD, hL, hl⟩ := h
  rcases h.next (Maps.int_keyed T.hk) ty with ⟨_, hl0, hrun⟩ | ⟨key, v, kl, y, w', cnt', hkey, hlk, hv, hat, hrun, hrg, hlt, hgr, hsz, hen⟩
  · left
    refine ⟨us_ext hD.len hL fun n => ?_, hrun⟩
    rcases hl n with ⟨a, b⟩ | ⟨a, _⟩
    · rw [hl0] at b
      have b2 : useAt U n = (0, 0) := by simpa using b
      rw [a, b2]
    · exact a
  · right
    obtain ⟨n, rfl, rfl, _⟩ := Maps.keyOf_int_inv T.hk hkey
    obtain ⟨u, rfl, rfl⟩ := rdU_inv hv
    have e1 := hat (encU (0, 0))
    rw [hD.at_] at e1
    have e2 : useAt U n = u := encU_inj e1
    have hne : useAt U n ≠ (0, 0) := by
      rcases hl n with ⟨_, b⟩ | ⟨_, b⟩
      · rw [hlk] at b
        simpa using b.symm
      · rw [hlk] at b
        cases b
    obtain ⟨g0, g1⟩ := useAt_out hD.len hne
    refine ⟨n, u, w', g0, g1, e2.symm, e2 ▸ hne, hrun, ⟨D, _, cnt', hrg, hD, by simp [hL], fun m => ?_⟩, by rw [hrg.left_eq, h.left_eq]; exact hlt, hgr, hsz, hen⟩
    by_cases hm : m = n
    · subst hm
      right
      rw [useAt_set_same g0 (by omega)]
      refine ⟨e2.symm, ?_⟩
      have : (Lit.int .i64 m).sameKey (.int .i64 m) = true := WideAt.sameKey_self trivial
      simp [this]
    · rw [useAt_set_other g0 hm]
      have : (Lit.int .i64 m).sameKey (.int .i64 n) = false := Maps.sameKey_ne (by simpa using hm)
      simp only [this, Bool.not_false, Bool.and_true]
      exact hl m
theorem URange.lt {r : Nat} {L : Us} (h : URange w P k b r U L) : r < w.heap.size ∧ b < w.heap.size ∧ r ≠ b := by
  obtain ⟨D, left, cnt, h, _⟩ := h
  exact ⟨h.lt, h.owns.lt, h.ne⟩
theorem URange.len {r : Nat} {L : Us} (h : URange w P k b r U L) : L.length = 64 := by
  obtain ⟨D, left, cnt, _, _, h, _⟩ := h
  exact h
theorem URange.grown {w' : World} {r : Nat} {L : Us} {q : Option Nat} (h : URange w P k b r U L) (hg : w.grownBy w' q) (hb : some b ≠ q) (hr : some r ≠ q) : URange w' P k b r U L := by
  obtain ⟨D, left, cnt, h, rest⟩ := h
  exact ⟨D, left, cnt, h.kept hg hb hr, rest⟩
theorem URange.left_kept {w' : World} {r : Nat} {L : Us} {q : Option Nat} (h : URange w P k b r U L) (hg : w.grownBy w' q) (hb : some b ≠ q) (hr : some r ≠ q) : w'.rangeLeft b r = w.rangeLeft b r := by
  obtain ⟨D, left, cnt, h, rest⟩ := h
  rw [(h.kept hg hb hr).left_eq, h.left_eq]
end
end Go.Proofs.YtjmfefaoenmppaaGreatDoor

namespace Go.Proofs.YtjmfefaoenmppaaGreatDoor
open Go.Maps (Keyed)

section
variable {P : Program} (w : World) {ops : Array Oper} {rest : List Oper} {o : Oper} {a : Act} {Q : Exit → Act → World → Prop} {t k e : TypeId} {b : Nat} {U : Us}

theorem wpList_ulook (T : MTy P t k e) (hg : o.guard = none) (m x : Operand) (hop : o.op = Op.lookup t m x false) (hm : a.eval m = .map (some b)) (h : UMap w P k b U) (n : Int) (hx : a.eval x = .int .i64 n) (hw : (Lit.int .i64 n).wf = true)
    (hK : wpList P ops Q rest (a.put o.dst (.agg #[.int .i64 (useAt U n).1, .int .i64 (useAt U n).2])) w) : wpList P ops Q (o :: rest) a w := by
  refine wpList_plain hg fun K' hK' => ?_
  unfold Oper.wp
  simp [execOp, hop, hm, hx, h.look T hw, Result.andThen]
  exact hK' _ _ hK

theorem wpList_ulen (T : MTy P t k e) (hg : o.guard = none) (m : Operand) (hop : o.op = Op.call { callee := Callee.builtin Builtin.len, args := #[m], argTypes := #[t] }) (hm : a.eval m = .map (some b)) (h : UMap w P k b U)
    (hK : wpList P ops Q rest (a.put o.dst (.int .i64 (cntU U))) w) : wpList P ops Q (o :: rest) a w := by
  refine wpList_plain hg fun K' hK' => ?_
  unfold Oper.wp
  simp [execOp, hop, resolve, invoke, builtin, hm, h.count T o.type, Result.andThen]
  exact hK' _ _ hK

theorem wpList_uput (T : MTy P t k e) (hg : o.guard = none) (m x v : Operand) (hop : o.op = Op.mapUpdate t m x v) (hm : a.eval m = .map (some b)) (h : UMap w P k b U) (n : Int) (u : Int × Int) (hx : a.eval x = .int .i64 n) (hv : a.eval v = .agg #[.int .i64 u.1, .int .i64 u.2])
    (h0 : 0 ≤ n) (h1 : n < 64) (hu : u ≠ (0, 0)) (hK : ∀ w', UMap w' P k b (U.set n.toNat u) → w.grownBy w' (some b) → wpList P ops Q rest (a.put o.dst undef) w') : wpList P ops Q (o :: rest) a w := by
  refine wpList_plain hg fun K' hK' => ?_
  obtain ⟨w', hrun, r1, r2⟩ := h.put T h0 h1 hu
  unfold Oper.wp
  simp [execOp, hop, hm, hx, hv, hrun, Result.andThen]
  exact hK' _ _ (hK w' r1 r2)

theorem wpList_udel (T : MTy P t k e) (hg : o.guard = none) (m x : Operand) (hop : o.op = Op.call { callee := Callee.builtin Builtin.delete, args := #[m, x], argTypes := #[t, k] }) (hm : a.eval m = .map (some b)) (h : UMap w P k b U) (n : Int) (hx : a.eval x = .int .i64 n)
    (h0 : 0 ≤ n) (h1 : n < 64) (hK : ∀ w', UMap w' P k b (U.set n.toNat (0, 0)) → w.grownBy w' (some b) → wpList P ops Q rest (a.put o.dst (.tuple #[])) w') : wpList P ops Q (o :: rest) a w := by
  refine wpList_plain hg fun K' hK' => ?_
  obtain ⟨w', hrun, r1, r2⟩ := h.del T h0 h1 o.type
  unfold Oper.wp
  simp [execOp, hop, resolve, invoke, builtin, hm, hx, hrun, Result.andThen]
  exact hK' _ _ (hK w' r1 r2)

theorem wpList_urange (T : MTy P t k e) (hg : o.guard = none) (m : Operand) (hop : o.op = Op.range t m) (hm : a.eval m = .map (some b)) (h : UMap w P k b U)
    (hK : ∀ w', URange w' P k b w.heap.size U zeroU → w.grownBy w' none → w'.heap.size = w.heap.size + 1 → wpList P ops Q rest (a.put o.dst (.pointer (some ⟨w.heap.size, 0, none⟩))) w') : wpList P ops Q (o :: rest) a w := by
  refine wpList_plain hg fun K' hK' => ?_
  obtain ⟨w', hrun, r1, r2, r3⟩ := URange.start h T
  unfold Oper.wp
  simp [execOp, hop, hm, hrun, Result.andThen]
  exact hK' _ _ (hK w' r1 r2 r3)

theorem wpList_unext (T : MTy P t k e) (hg : o.guard = none) (it : Operand) (hop : o.op = Op.next it false) {r : Nat} {L : Us} (hit : a.eval it = .pointer (some ⟨r, 0, none⟩)) (h : URange w P k b r U L)
    (hDone : L = U → wpList P ops Q rest (a.put o.dst (.tuple #[.bool false])) w)
    (hMore : ∀ (n : Int) (x y : Int) (w' : World), 0 ≤ n → n < 64 → (x, y) = useAt U n → (x, y) ≠ (0, 0) → URange w' P k b r U (L.set n.toNat (x, y)) → w'.rangeLeft b r < w.rangeLeft b r → w.grownBy w' (some r) → w'.heap.size = w.heap.size →
      (Instr.entry (.pointer (some ⟨r, 0, none⟩))).run P w' = .ok (.tuple #[.int .i64 n, .agg #[.int .i64 x, .int .i64 y]]) w' → wpList P ops Q rest (a.put o.dst (.tuple #[.bool true, .int .i64 n, .agg #[.int .i64 x, .int .i64 y]])) w') :
    wpList P ops Q (o :: rest) a w := by
  refine wpList_plain hg fun K' hK' => ?_
  unfold Oper.wp
  rcases h.next T o.type with ⟨h0, hrun⟩ | ⟨n, u, w', g0, g1, g2, g3, hrun, hr, hl, hg', hs, hen⟩
  · simp [execOp, hop, hit, hrun, Result.andThen]
    exact hK' _ _ (hDone h0)
  · simp [execOp, hop, hit, hrun, Result.andThen]
    exact hK' _ _ (hMore n u.1 u.2 w' g0 g1 g2 g3 hr hl hg' hs hen)
end
end Go.Proofs.YtjmfefaoenmppaaGreatDoor
