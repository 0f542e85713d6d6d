/-
  How the texts and slices that a law is called with are opened.
-/
import Derived.Test.YtohfadgbmlfcmaaMark
import Derived.Test.YtohfadgbmlfcmaaDraw
import Derived.Test.YtohfadgbmlfcmaaRows
import Derived.Test.YtohfadgbmlfcmaaChecked
import Derived.ChangeOld
import Derived.Below
import Derived.ChangeSlices
import Derived.Deep.Fields
import Derived.Deep.Slices
import Derived.SliceStrings
import Derived.Lib.SmallJoins
namespace Go.Proofs.Ytohfadgbmlfcmaa
open Go.Joins Go.ChangeShapes Go.WideShapes Go.ChangeAt Go.RowKit Go.Deep

theorem own : ownKnob Try.prog.godebug = none := by kernel_rfl
theorem laidOut : laidOutB Try.prog = true := by kernel_rfl
theorem cells9' : Try.prog.cellsOf 9 = 1 := by kernel_rfl

theorem strs_of {H : Type} {enc : TypeId × Value → H} {W : World} {base : Nat} {spare : Nat → Bool} {held : Bool} {fuel : Nat} {v : Value} {x : DataW H × List MemPlace}
    (h : DataW.trod enc Try.prog W base spare held fuel 22 [v] = some x) :
    ∃ (A : Option Addr) (cap : Nat) (ss : List ByteArray), v = .slice A ss.length cap ∧ ss.length ≤ maxLen ∧ (∀ s ∈ ss, s.size ≤ maxLen) ∧ Lies W A (strCells ss) := by
  rcases open_strings Try.underlying22 Try.underlying9 cells9' h with ⟨hcs, _⟩ | ⟨a, len, cp, ss, hcs, _, hl, hm, hlen, _, hcell, hws⟩
  · simp only [List.cons.injEq, and_true] at hcs
    subst hcs
    exact ⟨none, 0, [], rfl, by simp, by simp, Lies.nil _ _⟩
  · simp only [List.cons.injEq, and_true] at hcs
    subst hcs
    have hle : len ≤ ss.length := by rw [hlen]; split <;> omega
    have hlt : (ss.take len).length = len := by simp; omega
    refine ⟨some a, cp, ss.take len, by rw [hlt], by rw [hlt]; omega, fun s hs => hws s (List.mem_of_mem_take hs), fun h0 => ?_⟩
    rw [strCells_len, hlt] at h0
    have hc0 := hcell 0 (by omega)
    obtain ⟨b, off, spot⟩ := a
    have hspot : spot = none := by simpa [Addr.add] using World.cell?_spot hc0
    subst hspot
    refine ⟨b, off, rfl, World.block_lt_of_cell? W (Addr.add ⟨b, off, none⟩ 0) hc0, fun j v hj => ?_⟩
    have hj2 : j < len := by
      have := (List.getElem?_eq_some_iff.1 hj).1
      rw [strCells_len, hlt] at this
      exact this
    have hcj := hcell j (by omega)
    rw [Addr.add_mid] at hcj
    rw [hcj, ← hj, strCells_at _ j (by rw [hlt]; exact hj2)]
    simp [List.getElem?_eq_getElem (show j < ss.length by omega)]

set_option maxRecDepth 100000 in
/-- A slice of bytes that came in leads to its bytes. -/
theorem bytes_open {H : Type} {enc : TypeId × Value → H} {W : World} {base : Nat} {spare : Nat → Bool} {held : Bool} {fuel l cap : Nat} {A : Option Addr} {x : DataW H × List MemPlace}
    (h : DataW.trod enc Try.prog W base spare held fuel 33 (Value.cells (.slice A l cap)).toList = some x) : l ≤ cap ∧ BytesAt W A l := by
  rcases open_ints Try.underlying33 Try.underlying5 (by kernel_rfl) h with ⟨hcs, _⟩ | ⟨x, len, c, zs, hcs, _, hl, hm, hz, _, hcell, hwz⟩
  · simp [Value.cells] at hcs
    obtain ⟨rfl, rfl, rfl⟩ := hcs
    exact ⟨Nat.le_refl _, fun h => absurd h (by omega)⟩
  · simp [Value.cells] at hcs
    obtain ⟨rfl, rfl, rfl⟩ := hcs
    have hz2 : zs.length = if spare x.block = true then cap else l := by simpa using hz
    have hz' : l ≤ zs.length := by rw [hz2]; split <;> omega
    refine ⟨hl, fun h0 => ?_⟩
    have hc0 := hcell 0 (by omega)
    obtain ⟨b, off, spot⟩ := x
    have hspot : spot = none := by simpa [Addr.add] using World.cell?_spot hc0
    subst hspot
    refine ⟨b, off, rfl, World.block_lt_of_cell? W (Addr.add ⟨b, off, none⟩ 0) hc0, fun j hj => ?_⟩
    have hcj := hcell j (by omega)
    have hplain : (⟨b, off, none⟩ : Addr).add j = ⟨b, off + j, none⟩ := by unfold Addr.add; split <;> simp_all
    rw [hplain] at hcj
    have hj2 : j < zs.length := by omega
    have hg : zs.getD j 0 = zs[j] := by simp [List.getD, hj2]
    rw [hg] at hcj
    have hb := bounds_u8 (hwz zs[j] (List.getElem_mem hj2))
    exact ⟨zs[j], hb.1, hb.2, hcj⟩

theorem strs_open {H : Type} {enc : TypeId × Value → H} {W : World} {base : Nat} {spare : Nat → Bool} {held : Bool} {l c : Nat} {A : Option Addr} {d : DataW H} {p : List MemPlace}
    (h : DataW.Trod enc Try.prog W base spare held 22 (.slice A l c) d p) : ∃ ss : List ByteArray, l = ss.length ∧ ss.length ≤ maxLen ∧ (∀ s ∈ ss, s.size ≤ maxLen) ∧ Lies W A (strCells ss) := by
  obtain ⟨fuel, hf⟩ := h
  obtain ⟨A', c', ss, he, g⟩ := strs_of (v := .slice A l c) (by simpa [Value.cells] using hf)
  injection he with e1 e2 e3
  subst e1
  exact ⟨ss, e2, g⟩
end Go.Proofs.Ytohfadgbmlfcmaa
