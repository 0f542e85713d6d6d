/-
  Arrays of 64 texts: loaded, built, compared.
-/
import Derived.Test.YtadgknkheachaaaSOk
import Derived.ChangeKeysEq
import Derived.Deep.WholeRow
import Derived.Laws.Cover3
import Derived.Laws.StructEq
namespace Go.Proofs.Ytadgknkheachaaa
open Go.RowKit

theorem strCells_eq (cs : List ByteArray) : (strCells cs).toArray.toList = strCells cs := by simp
theorem info60 (n : Nat) (h : n = 64) : (Try.prog.info? 60).map (·.size) = some n := by subst h; kernel_rfl
theorem arr_at (A : Option Addr) (n c : Nat) (h : 64 ≤ n) (w : World) : (Instr.arrayAt 60 (.slice A n c)).run Try.prog w = .ok (.pointer A) w :=
  run_arrayAt w 60 9 64 A n c Try.underlying60 h
theorem arr_load (w : World) (b o : Nat) (cs : List ByteArray) (h64 : cs.length = 64) (h : w.rangeAt b o (strCells cs)) :
    (Instr.loadAt 60 (.pointer (some ⟨b, o, none⟩))).run Try.prog w = .ok (.agg (strCells cs).toArray) w :=
  run_loadAt_mid w b o 60 (strCells cs) _ h Try.underlying60 rfl (info60 _ (by rw [strCells_len, h64]))
theorem blank_cells : (strCells blank).toArray = Array.replicate 64 (Value.string ⟨#[]⟩) := by
  apply Array.ext'
  simp [strCells, blank, none8]
theorem arr_build (w : World) : (Instr.build 60 #[]).run Try.prog w = .ok (.agg (strCells blank).toArray) w :=
  run_build w 60 #[] _ (by kernel_rfl)

theorem part_str (w : World) (cs : List ByteArray) (i : Nat) (h : i < cs.length) : (part 9 (strCells cs).toArray (i * Try.prog.cellsOf 9)).run Try.prog w = .ok (.string cs[i]) w := by
  have hc : Try.prog.cellsOf 9 = 1 := by kernel_rfl
  have hg : (isAgg 9).run Try.prog w = .ok false w := Try.isAgg9 w
  rw [hc]
  simp [part, Sem.run_bind, hg, strCells, h]
theorem eq_items (w : World) (cs ds : List ByteArray) (d : Nat) : ∀ is : List Nat, (∀ i ∈ is, i < cs.length ∧ i < ds.length) →
    (Op.eqItems (d + 1) 9 (Try.prog.cellsOf 9) (strCells cs).toArray (strCells ds).toArray is).run Try.prog w = .ok (is.all fun i => cs.getD i none8 == ds.getD i none8) w
  | [], _ => by simp [Op.eqItems]
  | i :: is, h => by
    have h1 := h i (by simp)
    have ih := eq_items w cs ds d is (fun j hj => h j (by simp [hj]))
    have he : ∀ a b : ByteArray, (Op.equalIn (d + 1) 9 (.string a) (.string b)).run Try.prog w = .ok (a == b) w := fun a b => by simp [Op.equalIn, run_underlying Try.underlying9]
    simp only [Op.eqItems, Sem.run_bind, part_str w cs i h1.1, part_str w ds i h1.2, he, Result.andThen_ok]
    have g1 : cs.getD i none8 = cs[i]'h1.1 := by simp [h1.1]
    have g2 : ds.getD i none8 = ds[i]'h1.2 := by simp [h1.2]
    rw [List.all_cons, g1, g2]
    cases hq : (cs[i]'h1.1 == ds[i]'h1.2)
    · simp
    · simp [ih]
def blankB (cs : List ByteArray) : Bool := decide (∀ s ∈ cs, s.size = 0)
theorem size_none {s : ByteArray} (h : s.size = 0) : s = none8 := by
  cases s with
  | mk a =>
    have : a = #[] := Array.eq_empty_of_size_eq_zero h
    subst this
    rfl
theorem beq_none (s : ByteArray) : (s == none8) = decide (s.size = 0) := by
  have hn : none8.toList = [] := str_nil rfl
  rw [beq_toListBytes, hn]
  by_cases h : s.size = 0
  · rw [str_nil h]
    simp [h]
  · have h2 := str_some h
    simp [h, h2]
theorem blank_getD (i : Nat) (h : i < 64) : blank.getD i none8 = none8 := by
  unfold blank
  rw [List.getD_eq_getElem?_getD, List.getElem?_replicate, if_pos h]
  rfl
theorem blank_items (cs : List ByteArray) (h : cs.length = 64) : ((List.range 64).all fun i => cs.getD i none8 == blank.getD i none8) = blankB cs := by
  rw [Bool.eq_iff_iff]
  simp only [List.all_eq_true, List.mem_range, blankB, decide_eq_true_eq]
  constructor
  · intro hi s hs
    obtain ⟨j, hj, rfl⟩ := List.getElem_of_mem hs
    have := hi j (by omega)
    have e := blank_getD j (by omega)
    rw [e, beq_none] at this
    simpa [hj] using this
  · intro hs i hi
    have e := blank_getD i hi
    rw [e, beq_none]
    have := hs cs[i] (by simp)
    simpa [show i < cs.length by omega] using this
theorem arr_eq10 (w : World) (cs : List ByteArray) (h1 : cs.length = 64) : (Op.equalIn 10000 60 (.agg (strCells cs).toArray) (.agg (strCells blank).toArray)).run Try.prog w = .ok (blankB cs) w := by
  obtain ⟨i0, hi, _, _, _⟩ := info_parts Try.info9
  rw [show (10000 : Nat) = 9999 + 1 from rfl, run_equalIn_array w 9999 _ _ Try.underlying60 hi, show (9999 : Nat) = 9998 + 1 from rfl,
    eq_items w cs blank 9998 (List.range 64) (fun i hi => by simp [blank, h1] at hi ⊢; omega), blank_items cs h1]
theorem arr_eq (w : World) (cs : List ByteArray) (h1 : cs.length = 64) :
    (binOp .eql 60 (.agg (strCells cs).toArray) (.agg (strCells blank).toArray)).run Try.prog w = .ok (.bool (blankB cs)) w := by
  have := arr_eq10 w cs h1
  simp only [binOp]
  simp [Op.equal, Op.maxDepth, this]
theorem blank_lit : (strCells blank).toArray = #[.string ⟨#[]⟩, .string ⟨#[]⟩, .string ⟨#[]⟩, .string ⟨#[]⟩, .string ⟨#[]⟩, .string ⟨#[]⟩, .string ⟨#[]⟩, .string ⟨#[]⟩, .string ⟨#[]⟩, .string ⟨#[]⟩, .string ⟨#[]⟩, .string ⟨#[]⟩, .string ⟨#[]⟩, .string ⟨#[]⟩, .string ⟨#[]⟩, .string ⟨#[]⟩, .string ⟨#[]⟩, .string ⟨#[]⟩, .string ⟨#[]⟩, .string ⟨#[]⟩, .string ⟨#[]⟩, .string ⟨#[]⟩, .string ⟨#[]⟩, .string ⟨#[]⟩, .string ⟨#[]⟩, .string ⟨#[]⟩, .string ⟨#[]⟩, .string ⟨#[]⟩, .string ⟨#[]⟩, .string ⟨#[]⟩, .string ⟨#[]⟩, .string ⟨#[]⟩, .string ⟨#[]⟩, .string ⟨#[]⟩, .string ⟨#[]⟩, .string ⟨#[]⟩, .string ⟨#[]⟩, .string ⟨#[]⟩, .string ⟨#[]⟩, .string ⟨#[]⟩, .string ⟨#[]⟩, .string ⟨#[]⟩, .string ⟨#[]⟩, .string ⟨#[]⟩, .string ⟨#[]⟩, .string ⟨#[]⟩, .string ⟨#[]⟩, .string ⟨#[]⟩, .string ⟨#[]⟩, .string ⟨#[]⟩, .string ⟨#[]⟩, .string ⟨#[]⟩, .string ⟨#[]⟩, .string ⟨#[]⟩, .string ⟨#[]⟩, .string ⟨#[]⟩, .string ⟨#[]⟩, .string ⟨#[]⟩, .string ⟨#[]⟩, .string ⟨#[]⟩, .string ⟨#[]⟩, .string ⟨#[]⟩, .string ⟨#[]⟩, .string ⟨#[]⟩] := rfl
end Go.Proofs.Ytadgknkheachaaa
