/-
  A slice of bytes that came in, turned into a text.
-/
import Derived.Test.YtimpdjlgfjehcaaMD
import Derived.Laws.BytesArg
namespace Go.Proofs.Ytimpdjlgfjehcaa
open Go.RowKit

theorem conv_zero (w : World) (p : Option Addr) (c : Nat) : (convert 22 9 (.slice p 0 c)).run Try.prog w = .ok (.string none8) w := by
  rw [run_convert_bytes_string w 22 9 5 _ 0 c Try.underlying22 Try.underlying5 Try.underlying9]
  cases p with
  | none => simp [Conv.bytesToString, none8]; rfl
  | some x => simp [Conv.bytesToString, loadCells, none8]; rfl
theorem conv_bytes {w : World} {A : Option Addr} {n : Nat} (h : BytesAt w A n) (m : Nat) (hm : m ≤ n) : ∃ s : ByteArray, s.size = m ∧ ∀ W, Below w.heap.size w W → ∀ c, (convert 22 9 (.slice A m c)).run Try.prog W = .ok (.string s) W := by
  by_cases h0 : m = 0
  · subst h0
    exact ⟨none8, rfl, fun W _ c => conv_zero W A c⟩
  · obtain ⟨b, off, rfl, hlt, hc⟩ := h (by omega)
    obtain ⟨f, hf⟩ : ∃ f : Nat → Int, ∀ j, j < n → w.cell? ⟨b, off + j, none⟩ = some (Value.int .u8 (f j)) :=
      ⟨fun j => if hj : j < n then (hc j hj).choose else 0, fun j hj => by
        show w.cell? ⟨b, off + j, none⟩ = some (Value.int .u8 (if hj : j < n then (hc j hj).choose else 0))
        rw [dif_pos hj]
        exact (hc j hj).choose_spec.2.2⟩
    refine ⟨strOfNums ((List.range m).map f), by rw [strOfNums_size]; simp, fun W hW c => run_convert_bytes_arg W 22 5 Try.underlying22 Try.underlying5 b off m c _ (by simp) (fun i hi => ?_) 9 Try.underlying9⟩
    have hx : ((List.range m).map f).getD i 0 = f i := by simp [List.getD_eq_getElem?_getD, hi]
    rw [hx, hW.cell (p := ⟨b, off + i, none⟩) hlt]
    exact hf i (by omega)
end Go.Proofs.Ytimpdjlgfjehcaa
