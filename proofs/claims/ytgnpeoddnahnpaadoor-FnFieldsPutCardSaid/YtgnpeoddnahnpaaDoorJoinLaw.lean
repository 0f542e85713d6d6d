/-
  FnFieldsJoin: the plain part: two records, one behind the other, are one.
-/
import Derived.Test.YtgnpeoddnahnpaaDoorDrawF
import Derived.Test.YtgnpeoddnahnpaaDoorNumLaw
namespace Go.Proofs.YtgnpeoddnahnpaaDoor
open Go.RowKit

theorem recL_app (ss tt : List ByteArray) : recL (ss ++ tt) = recL ss ++ recL tt := by simp [recL]

/-- What the law asks of the three answers. -/
theorem fput_join (ss tt : List ByteArray) :
    (fput (ss ++ tt)).2 = false ∨ ((fput (ss ++ tt)).2 = true ∧ (fput ss).2 = true ∧ (fput tt).2 = true ∧ (fput (ss ++ tt)).1 = (fput ss).1 ++ (fput tt).1) := by
  by_cases h : (ss ++ tt).length ≤ 60 ∧ (recL (ss ++ tt)).length ≤ 2048
  · obtain ⟨h1, h2⟩ := h
    have h3 := h2
    rw [recL_app, List.length_append] at h3
    rw [List.length_append] at h1
    rw [fput_yes (by rw [List.length_append]; exact h1) h2, fput_yes (ss := ss) (by omega) (by omega), fput_yes (ss := tt) (by omega) (by omega)]
    exact .inr ⟨rfl, rfl, rfl, recL_app ss tt⟩
  · left
    unfold fput
    rw [if_neg h]

/-- A row of strings is kept where the world grew past another block. -/
theorem own_below9 {w w' : World} {base n : Nat} {v : Value} {xs : List Value} (h : w.ownsRow base 9 1 v n xs) (hb : Below w.heap.size w w') : w'.ownsRow base 9 1 v n xs := by
  refine h.kept (row := none) ⟨hb.os, hb.tape, hb.output, hb.size, fun k hk _ => hb.block k hk⟩ ?_
  cases v.ownBlock with
  | none => exact .inl rfl
  | some k => exact .inr (by simp)
theorem own_app9 {w : World} {base : Nat} {v : Value} {ss tt : List ByteArray} (h : w.ownsRow base 9 1 v (ss.length + tt.length) (strCellsOf ss ++ strCellsOf tt)) : w.ownsRow base 9 1 v (ss ++ tt).length (strCellsOf (ss ++ tt)) := by
  rw [List.length_append, show strCellsOf (ss ++ tt) = strCellsOf ss ++ strCellsOf tt by simp [strCellsOf]]
  exact h
theorem strCells_one (ss : List ByteArray) : ∀ u ∈ strCellsOf ss, u.oneCell' = true := by
  intro u hu
  obtain ⟨s, _, rfl⟩ := List.mem_map.1 hu
  rfl

end Go.Proofs.YtgnpeoddnahnpaaDoor
