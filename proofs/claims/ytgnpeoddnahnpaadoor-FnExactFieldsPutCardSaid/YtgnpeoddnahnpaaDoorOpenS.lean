/-
  What the reading of a slice of strings gives a walk.
-/
import Derived.Test.YtgnpeoddnahnpaaDoorLaid
import Derived.Test.YtgnpeoddnahnpaaDoorStrs2
import Derived.SliceStrings
namespace Go.Proofs.YtgnpeoddnahnpaaDoor
open Go.ChangeShapes Go.WideShapes Go.ChangeAt Go.RowKit

theorem cells9' : Tryd.prog.cellsOf 9 = 1 := by kernel_rfl
theorem strs_of {H : Type} {enc : TypeId × Value → H} {W : World} {base : Nat} {spare : Nat → Bool} {held : Bool} {fuel l cap : Nat} {A : Option Addr} {x : DataW H × List MemPlace}
    (h : DataW.trod enc Tryd.prog W base spare held fuel 22 (Value.cells (.slice A l cap)).toList = some x) :
    ∃ ss : List ByteArray, l = ss.length ∧ ss.length ≤ maxLen ∧ (∀ s ∈ ss, s.size ≤ maxLen) ∧ StrsAt W A ss := by
  rcases open_strings Tryd.underlying22 Tryd.underlying9 cells9' h with ⟨hcs, _⟩ | ⟨a, len, cp, ss, hcs, _, hl, hm, hlen, _, hcell, hws⟩
  · simp [Value.cells] at hcs
    obtain ⟨rfl, rfl, rfl⟩ := hcs
    exact ⟨[], rfl, by simp, by simp, fun h => by simp at h⟩
  · simp [Value.cells] at hcs
    obtain ⟨rfl, rfl, rfl⟩ := hcs
    have hle : l ≤ ss.length := by rw [hlen]; split <;> omega
    refine ⟨ss.take l, by simp; omega, by simp; omega, fun s hs => hws s (List.mem_of_mem_take hs), fun h0 => ?_⟩
    simp only [List.length_take] at h0
    have hc0 := hcell 0 (by omega)
    obtain ⟨b, off, spot⟩ := a
    have hspot : spot = none := by simpa [Addr.add] using World.cell?_spot hc0
    subst hspot
    refine ⟨b, off, rfl, World.block_lt_of_cell? W (Addr.add ⟨b, off, none⟩ 0) hc0, fun j hj => ?_⟩
    simp only [List.length_take] at hj
    have hcj := hcell j (by omega)
    have hplain : (⟨b, off, none⟩ : Addr).add j = ⟨b, off + j, none⟩ := by unfold Addr.add; split <;> simp_all
    rw [hplain] at hcj
    rw [hcj]
    simp [List.getElem?_eq_getElem (show j < ss.length by omega)]

end Go.Proofs.YtgnpeoddnahnpaaDoor
