/-
  What a torn text begins and ends with.
-/
import Derived.Test.YtimpdjlgfjehcaaOrdP
import Derived.Test.YtimpdjlgfjehcaaDrP
import Derived.Test.YtimpdjlgfjehcaaMB
import Derived.Test.YtimpdjlgfjehcaaWrY
import Derived.Test.YtimpdjlgfjehcaaWrS
import Derived.Test.YtimpdjlgfjehcaaCrI
namespace Go.Proofs.Ytimpdjlgfjehcaa
open Go.RowKit

/-- The cells of a disk that was answered. -/
theorem fld_cells (x y z : Value) (w : World) : (Instr.field 26 (.agg #[x, y, z]) 0).run Try.prog w = .ok x w := by kernel_rfl
theorem torn_list (o t : ByteArray) : (torn o t).data.toList = t.data.toList.take (t.size / 2) ++ o.data.toList.drop (t.size / 2) := by
  unfold torn
  rw [strOf_toList]
theorem torn_is (o t : ByteArray) : (torn o t).size = max (t.size / 2) o.size := by
  have h := congrArg List.length (torn_list o t)
  have ht : t.data.toList.length = t.size := by rw [Array.length_toList]; rfl
  have ho : o.data.toList.length = o.size := by rw [Array.length_toList]; rfl
  rw [List.length_append, List.length_take, List.length_drop, Array.length_toList, ht, ho] at h
  have e : (torn o t).data.size = (torn o t).size := rfl
  omega
theorem torn_head (o t : ByteArray) : (torn o t).extract 0 (t.size / 2) = t.extract 0 (t.size / 2) := by
  apply bytes_inj
  have ht : t.data.toList.length = t.size := by rw [Array.length_toList]; rfl
  rw [ext_head, ext_head, torn_list, List.take_append_of_le_length (by rw [List.length_take]; omega), List.take_take, Nat.min_self]
theorem torn_rest (o t : ByteArray) : (torn o t).extract (t.size / 2) (torn o t).size = o.extract (t.size / 2) o.size := by
  apply bytes_inj
  have ht : t.data.toList.length = t.size := by rw [Array.length_toList]; rfl
  have hl : (t.data.toList.take (t.size / 2)).length = t.size / 2 := by rw [List.length_take]; omega
  rw [ext_list, ext_list, torn_list, List.drop_append_of_le_length (by omega), List.drop_of_length_le (by omega), List.nil_append]
theorem Lies.strD {w : World} {A : Option Addr} {ss : List ByteArray} (h : Lies w A (strCells ss)) (k : Nat) (hk : k < ss.length) : ∃ b off, A = some ⟨b, off, none⟩ ∧ b < w.heap.size ∧ w.cell? ⟨b, off + k, none⟩ = some (.string (ss.getD k none8)) := by
  obtain ⟨b, off, e, hl, hc⟩ := h.str k hk
  refine ⟨b, off, e, hl, ?_⟩
  rw [hc, List.getD_eq_getElem?_getD, List.getElem?_eq_getElem hk]
  rfl
end Go.Proofs.Ytimpdjlgfjehcaa
