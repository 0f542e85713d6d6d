/-
  How the slices of bytes that a law is called with are opened.
-/
import Derived.Test.YtimpdjlgfjehcaaArgs
import Derived.Test.YtimpdjlgfjehcaaMD
import Derived.ChangeSlices
namespace Go.Proofs.Ytimpdjlgfjehcaa
open Go.ChangeShapes Go.WideShapes Go.ChangeAt Go.RowKit

set_option maxRecDepth 100000 in
/-- A slice of bytes that came in leads to its bytes. -/
theorem bytes_open {H : Type} {enc : TypeId × Value → H} {W : World} {base : Nat} {spare : Nat → Bool} {held : Bool} {fuel l cap : Nat} {A : Option Addr} {x : DataW H × List MemPlace}
    (h : DataW.trod enc Try.prog W base spare held fuel 22 (Value.cells (.slice A l cap)).toList = some x) : l ≤ cap ∧ BytesAt W A l := by
  rcases open_ints Try.underlying22 Try.underlying5 (by kernel_rfl) h with ⟨hcs, _⟩ | ⟨x, len, c, zs, hcs, _, hl, hm, hz, _, hcell, hwz⟩
  · simp [Value.cells] at hcs
    obtain ⟨rfl, rfl, rfl⟩ := hcs
    exact ⟨Nat.le_refl _, fun h => absurd h (by omega)⟩
  · simp [Value.cells] at hcs
    obtain ⟨rfl, rfl, rfl⟩ := hcs
    have hz2 : zs.length = if spare x.block = true then cap else l := by simpa using hz
    have hz' : l ≤ zs.length := by rw [hz2]; split <;> omega
    refine ⟨hl, fun h0 => ?_⟩
    have hc0 := hcell 0 (by omega)
    obtain ⟨b, off, spot⟩ := x
    have hspot : spot = none := by simpa [Addr.add] using World.cell?_spot hc0
    subst hspot
    refine ⟨b, off, rfl, World.block_lt_of_cell? W (Addr.add ⟨b, off, none⟩ 0) hc0, fun j hj => ?_⟩
    have hcj := hcell j (by omega)
    have hplain : (⟨b, off, none⟩ : Addr).add j = ⟨b, off + j, none⟩ := by unfold Addr.add; split <;> simp_all
    rw [hplain] at hcj
    have hj2 : j < zs.length := by omega
    have hg : zs.getD j 0 = zs[j] := by simp [List.getD, hj2]
    rw [hg] at hcj
    have hb := bounds_u8 (hwz zs[j] (List.getElem_mem hj2))
    exact ⟨zs[j], hb.1, hb.2, hcj⟩

end Go.Proofs.Ytimpdjlgfjehcaa
