/-
  Rows of strings of the call's own, and what reads them.
-/
import Derived.Test.YtehmaacbmkfedaaDoorPut
import Derived.Test.YtehmaacbmkfedaaDoorNG
import Derived.Test.YtehmaacbmkfedaaDoorCuts
import Derived.BigQuiet
import Derived.Deep.QuietTactic
import Derived.Laws.OwnMore
import Derived.OwnWalk
import Derived.Maps.AppendAt
import Derived.Stop.LaidErr
namespace Go.Proofs.YtehmaacbmkfedaaDoor
open Go.ChangeShapes Go.WideShapes Go.ChangeAt Go.RowKit

theorem Tryd.info9 : (Tryd.prog.info? 9).map (fun i => (i.zero, i.size, i.bytes)) = some (some (.string ⟨#[]⟩), 1, 16) := by kernel_rfl
def strCellsOf (ss : List ByteArray) : List Value := ss.map Value.string

/-- The slice address A leads to the strings ss. -/
def StrsAt (w : World) (A : Option Addr) (ss : List ByteArray) : Prop :=
  0 < ss.length → ∃ b off, A = some ⟨b, off, none⟩ ∧ b < w.heap.size ∧ ∀ (j : Nat) (h : j < ss.length), w.cell? ⟨b, off + j, none⟩ = some (.string (ss[j]))
theorem StrsAt.below {w w' : World} {A : Option Addr} {ss : List ByteArray} (h : StrsAt w A ss) (hb : Below w.heap.size w w') : StrsAt w' A ss := by
  intro h0
  obtain ⟨b, off, rfl, hlt, hc⟩ := h h0
  exact ⟨b, off, rfl, Nat.lt_of_lt_of_le hlt hb.size, fun j hj => (hb.cell (p := ⟨b, off + j, none⟩) hlt).trans (hc j hj)⟩
theorem StrsAt.of_own {w : World} {base g n c : Nat} {ss : List ByteArray} (h : w.ownsRow base 9 1 (.slice (some ⟨g, 0, none⟩) n c) ss.length (strCellsOf ss)) (hn : n = ss.length) : StrsAt w (some ⟨g, 0, none⟩) ss := by
  intro h0
  have hlt := (h.lt g rfl).2
  refine ⟨g, 0, rfl, hlt, fun j hj => ?_⟩
  subst hn
  rw [Nat.zero_add, h.cellAt j (by omega)]
  simp [strCellsOf, hj]

theorem own_str {w : World} {base : Nat} {v : Value} {ss : List ByteArray} {s : ByteArray} (h : w.ownsRow base 9 1 v (ss.length + 1) (strCellsOf ss ++ [.string s])) : w.ownsRow base 9 1 v (ss ++ [s]).length (strCellsOf (ss ++ [s])) := by
  rw [List.length_append, List.length_singleton, show strCellsOf (ss ++ [s]) = strCellsOf ss ++ [.string s] by simp [strCellsOf]]
  exact h
theorem own_formt {w : World} {t : TypeId} {base n : Nat} {v : Value} {xs : List Value} (h : w.ownsRow base t 1 v n xs) (hn : 0 < n) : ∃ g cap, v = .slice (some ⟨g, 0, none⟩) n cap := by
  rcases h.2 with ⟨_, h0⟩ | ⟨g, cap, _, rfl, _⟩
  · omega
  · exact ⟨g, cap, rfl⟩
theorem own_below {w w' : World} {t : TypeId} {base n : Nat} {v : Value} {xs : List Value} (h : w.ownsRow base t 1 v n xs) (hb : Below w.heap.size w w') : w'.ownsRow base t 1 v n xs := by
  refine h.kept (row := none) ⟨hb.os, hb.tape, hb.output, hb.size, fun k hk _ => hb.block k hk⟩ ?_
  cases v.ownBlock with
  | none => exact .inl rfl
  | some k => exact .inr (by simp)
theorem own_other {w w' : World} {t : TypeId} {base n : Nat} {v : Value} {xs : List Value} {k : Nat} (h : w.ownsRow base t 1 v n xs) (hg : w.grownBy w' (some k)) (hne : v.ownBlock ≠ some k) : w'.ownsRow base t 1 v n xs := h.kept hg (.inr hne)
theorem bel_row {a w w' : World} {t : TypeId} {base n : Nat} {v : Value} {xs : List Value} (h : Below a.heap.size a w) (ho : w.ownsRow base t 1 v n xs) (hb : a.heap.size ≤ base) (hg : w.grownBy w' v.ownBlock) : Below a.heap.size a w' :=
  h.grown hg h.size (fun k e => Nat.le_trans hb (ho.lt k e).1)
theorem ext_of (s : ByteArray) (f i : Nat) : s.extract f i = strOf ((s.data.toList.drop f).take (i - f)) := by
  apply bytes_inj
  rw [← ByteArray.toList_eq, Lib.extract_toList, strOf_toList]

end Go.Proofs.YtehmaacbmkfedaaDoor
