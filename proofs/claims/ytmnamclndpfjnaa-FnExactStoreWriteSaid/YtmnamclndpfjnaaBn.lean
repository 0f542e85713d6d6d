/-
  A bundle of rows of the call's own, no two in one block.
-/
import Derived.Test.YtmnamclndpfjnaaGen
namespace Go.Proofs.Ytmnamclndpfjnaa
open Go.RowKit

structure Rw where
  t : TypeId
  sz : Nat
  n : Nat
  v : Value
  xs : List Value
def Rw.own (w : World) (base top : Nat) (r : Rw) : Prop := w.ownsRow base r.t r.sz r.v r.n r.xs ∧ ∀ k, r.v.ownBlock = some k → k < top
def Rw.apart (r s : Rw) : Prop := ∀ k, r.v.ownBlock = some k → s.v.ownBlock ≠ some k
/-- The rows of the bundle lie in blocks from base to top, each in one of its own. -/
def Own (w : World) (base top : Nat) (L : List Rw) : Prop := (∀ r ∈ L, Rw.own w base top r) ∧ L.Pairwise Rw.apart
theorem Rw.apart.symm {r s : Rw} (h : Rw.apart r s) : Rw.apart s r := fun k h1 h2 => h k h2 h1
theorem Own.below {w w' : World} {base top : Nat} {L : List Rw} (h : Own w base top L) (hb : Below w.heap.size w w') : Own w' base top L := ⟨fun r hr => ⟨own_bel (h.1 r hr).1 hb, (h.1 r hr).2⟩, h.2⟩
theorem Own.base {w : World} {base base' top : Nat} {L : List Rw} (h : Own w base top L) (hb : base' ≤ base) : Own w base' top L := ⟨fun r hr => ⟨own_base (h.1 r hr).1 hb, (h.1 r hr).2⟩, h.2⟩
theorem Own.wide {w : World} {base top top' : Nat} {L : List Rw} (h : Own w base top L) (hb : top ≤ top') : Own w base top' L := ⟨fun r hr => ⟨(h.1 r hr).1, fun k hk => Nat.lt_of_lt_of_le ((h.1 r hr).2 k hk) hb⟩, h.2⟩
theorem Own.only {w w' : World} {lo hi base top : Nat} {L : List Rw} (h : Own w base top L) (hg : Only lo hi w w') (hb : hi ≤ base ∨ top ≤ lo) : Own w' base top L :=
  ⟨fun r hr => ⟨own_only (h.1 r hr).1 hg (fun k hk => by have := ((h.1 r hr).1.lt k hk).1; have := (h.1 r hr).2 k hk; omega), (h.1 r hr).2⟩, h.2⟩
theorem Own.set {w : World} {base top : Nat} {L : List Rw} (h : Own w base top L) {p : Addr} (hp : p.block < base) (u : Value) : Own (w.setCell p u) base top L := ⟨fun r hr => ⟨own_set (h.1 r hr).1 hp u, (h.1 r hr).2⟩, h.2⟩
theorem Own.drew {w : World} {base top : Nat} {L : List Rw} (h : Own w base top L) : Own w.drew base top L := h
/-- .. with the heap's size for its top. -/
theorem Own.at_top {w : World} {base top : Nat} {L : List Rw} (h : Own w base top L) : Own w base w.heap.size L := ⟨fun r hr => ⟨(h.1 r hr).1, fun k hk => ((h.1 r hr).1.lt k hk).2⟩, h.2⟩
theorem Own.nil (w : World) (base top : Nat) : Own w base top [] := ⟨fun _ h => by simp at h, .nil⟩
theorem Own.one {w : World} {base : Nat} {t : TypeId} {sz n : Nat} {v : Value} {xs : List Value} (h : w.ownsRow base t sz v n xs) : Own w base w.heap.size [⟨t, sz, n, v, xs⟩] :=
  ⟨fun r hr => by rw [List.mem_singleton] at hr; subst hr; exact ⟨h, fun k hk => (h.lt k hk).2⟩, List.pairwise_singleton _ _⟩
/-- One more row, made behind the others. -/
theorem Own.more {w : World} {base mid top top' : Nat} {L M : List Rw} (h : Own w base top L) (g : Own w mid top' M) (hm : top ≤ mid) (hb : base ≤ mid) (ht : top ≤ top') : Own w base top' (L ++ M) := by
  refine ⟨fun r hr => ?_, List.pairwise_append.2 ⟨h.2, g.2, fun r hr s hs k h1 h2 => ?_⟩⟩
  · rcases List.mem_append.1 hr with hr | hr
    · exact ⟨(h.1 r hr).1, fun k hk => Nat.lt_of_lt_of_le ((h.1 r hr).2 k hk) ht⟩
    · exact ⟨own_base (g.1 r hr).1 hb, (g.1 r hr).2⟩
  · have a1 := (h.1 r hr).2 k h1
    have a2 := ((g.1 s hs).1.lt k h2).1
    omega
/-- Rows in another order. -/
theorem Own.perm {w : World} {base top : Nat} {L M : List Rw} (h : Own w base top L) (hp : L.Perm M) : Own w base top M :=
  ⟨fun r hr => h.1 r (hp.mem_iff.2 hr), h.2.perm hp (fun h => Rw.apart.symm h)⟩
theorem Own.sub {w : World} {base top : Nat} {L M : List Rw} (h : Own w base top L) (hp : M.Sublist L) : Own w base top M := ⟨fun r hr => h.1 r (hp.subset hr), h.2.sublist hp⟩
theorem ne_own {r s : Rw} (h : Rw.apart r s) : s.v.ownBlock = none ∨ s.v.ownBlock ≠ r.v.ownBlock := by
  cases e : r.v.ownBlock with
  | none => cases e2 : s.v.ownBlock with
    | none => exact .inl rfl
    | some k => exact .inr (by simp)
  | some k => exact .inr (h k e)
theorem setAt_apart : ∀ {L : List Rw} (_ : L.Pairwise Rw.apart) (i : Nat) (h : i < L.length) {r : Rw} (_ : r.v.ownBlock = L[i].v.ownBlock), (L.set i r).Pairwise Rw.apart
  | a :: L, hp, 0, _, r, hv => by
    rw [List.pairwise_cons] at hp
    rw [List.set_cons_zero, List.pairwise_cons]
    exact ⟨fun s hs k h1 => hp.1 s hs k (by rw [← h1, hv]; rfl), hp.2⟩
  | a :: L, hp, i + 1, h, r, hv => by
    rw [List.pairwise_cons] at hp
    rw [List.set_cons_succ, List.pairwise_cons]
    refine ⟨fun s hs k h1 h2 => ?_, setAt_apart hp.2 i (by simpa using h) (by simpa using hv)⟩
    rcases List.mem_or_eq_of_mem_set hs with hs | rfl
    · exact hp.1 s hs k h1 h2
    · exact hp.1 _ (List.getElem_mem (by simpa using h)) k h1 (by rw [← h2, hv]; rfl)
theorem apart_at {L : List Rw} (hp : L.Pairwise Rw.apart) {i j : Nat} (hi : i < L.length) (hj : j < L.length) (hne : i ≠ j) : Rw.apart L[i] L[j] := by
  rcases Nat.lt_or_gt_of_ne hne with h | h
  · exact List.pairwise_iff_getElem.1 hp i j hi hj h
  · exact (List.pairwise_iff_getElem.1 hp j i hj hi h).symm
/-- One row has been written to. -/
theorem Own.put {w w' : World} {base top : Nat} {L : List Rw} (h : Own w base top L) (i : Nat) (hi : i < L.length) {r : Rw} (hv : r.v.ownBlock = L[i].v.ownBlock) (hg : w.grownBy w' L[i].v.ownBlock) (hr : w'.ownsRow base r.t r.sz r.v r.n r.xs) : Own w' base top (L.set i r) := by
  refine ⟨fun s hs => ?_, setAt_apart h.2 i hi hv⟩
  obtain ⟨j, hj, rfl⟩ := List.getElem_of_mem hs
  have hj' : j < L.length := by simpa using hj
  rw [List.getElem_set]
  split
  · exact ⟨hr, fun k hk => (h.1 L[i] (List.getElem_mem hi)).2 k (by rw [← hv]; exact hk)⟩
  · rename_i hne
    have hs := h.1 L[j] (List.getElem_mem hj')
    exact ⟨hs.1.kept hg (ne_own (apart_at h.2 hi hj' hne)), hs.2⟩
theorem Own.only_of {w w' : World} {base top : Nat} {L : List Rw} (h : Own w base top L) (i : Nat) (hi : i < L.length) (hg : w.grownBy w' L[i].v.ownBlock) : Only base top w w' :=
  Only.of_grown hg (fun k hk => ⟨((h.1 _ (List.getElem_mem hi)).1.lt k hk).1, (h.1 _ (List.getElem_mem hi)).2 k hk⟩)
theorem Own.row {w : World} {base top : Nat} {L : List Rw} (h : Own w base top L) (i : Nat) (hi : i < L.length) : w.ownsRow base L[i].t L[i].sz L[i].v L[i].n L[i].xs := (h.1 _ (List.getElem_mem hi)).1
end Go.Proofs.Ytmnamclndpfjnaa
