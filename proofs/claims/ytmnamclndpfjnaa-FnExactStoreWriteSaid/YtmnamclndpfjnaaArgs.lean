/-
  How space, and a row of numbers, that a law is called with are opened.
-/
import Derived.Test.YtmnamclndpfjnaaArg
import Derived.Test.YtmnamclndpfjnaaRows
import Derived.Test.YtmnamclndpfjnaaChecked
import Derived.ChangeOld
import Derived.ChangeSlices
import Derived.Below
import Derived.Deep.Fields
import Derived.Deep.Slices
import Derived.SliceStrings
import Derived.Lib.SmallJoins
namespace Go.Proofs.Ytmnamclndpfjnaa
open Go.Joins Go.ChangeShapes Go.WideShapes Go.ChangeAt Go.RowKit Go.Deep

theorem own : ownKnob Try.prog.godebug = none := by kernel_rfl
theorem laidOut : laidOutB Try.prog = true := by kernel_rfl
theorem cells3' : Try.prog.cellsOf 3 = 1 := by kernel_rfl

theorem ints_of {H : Type} {enc : TypeId × Value → H} {W : World} {base : Nat} {spare : Nat → Bool} {held : Bool} {fuel : Nat} {v : Value} {x : DataW H × List MemPlace}
    (h : DataW.trod enc Try.prog W base spare held fuel 23 [v] = some x) :
    ∃ (A : Option Addr) (cap : Nat) (xs : List Int), v = .slice A xs.length cap ∧ xs.length ≤ maxLen ∧ (∀ n ∈ xs, (Lit.int .i64 n).wf = true) ∧ Lies W A (intCells xs) := by
  rcases open_ints Try.underlying23 Try.underlying3 cells3' h with ⟨hcs, _⟩ | ⟨a, len, cp, zs, hcs, _, hl, hm, hlen, _, hcell, hws⟩
  · simp only [List.cons.injEq, and_true] at hcs
    subst hcs
    exact ⟨none, 0, [], rfl, by simp, by simp, Lies.nil _ _⟩
  · simp only [List.cons.injEq, and_true] at hcs
    subst hcs
    have hle : len ≤ zs.length := by rw [hlen]; split <;> omega
    have hlt : (zs.take len).length = len := by simp; omega
    refine ⟨some a, cp, zs.take len, by rw [hlt], by rw [hlt]; omega, fun n hn => hws n (List.mem_of_mem_take hn), fun h0 => ?_⟩
    rw [intCells_len, hlt] at h0
    have hc0 := hcell 0 (by omega)
    obtain ⟨b, off, spot⟩ := a
    have hspot : spot = none := by simpa [Addr.add] using World.cell?_spot hc0
    subst hspot
    refine ⟨b, off, rfl, World.block_lt_of_cell? W (Addr.add ⟨b, off, none⟩ 0) hc0, fun j v hj => ?_⟩
    have hj2 : j < len := by
      have := (List.getElem?_eq_some_iff.1 hj).1
      rw [intCells_len, hlt] at this
      exact this
    have hcj := hcell j (by omega)
    rw [Addr.add_mid] at hcj
    rw [hcj, ← hj, intCells_at _ j (by rw [hlt]; exact hj2)]
    simp [List.getD_eq_getElem?_getD, List.getElem?_eq_getElem (show j < zs.length by omega)]

set_option maxRecDepth 100000 in
theorem space_open {H : Type} {enc : TypeId × Value → H} {W : World} {base b0 : Nat} {spare : Nat → Bool} {held : Bool} {r : Reach} {v : Value} {d : DataW H} {p : List MemPlace}
    (hv : Value.okWide Try.prog W r b0 33 v) (h : DataW.Trod enc Try.prog W base spare held 33 v d p) : ∃ (A : Option Addr) (c : Nat) (B : Option Addr) (e : Nat) (k : Sp), v = .agg #[.slice A k.refs.length c, .slice B k.last.length e] ∧ SArg W A B k := by
  obtain ⟨cs, rfl, hsz⟩ := okWide_struct Try.underlying33 hv
  obtain ⟨l⟩ := cs
  match l, hsz.trans (show Try.prog.cellsOf 33 = 2 by kernel_rfl) with
  | [c0, c1], _ =>
    obtain ⟨fuel, hf⟩ := h
    obtain ⟨xs, n, _, hx, _, hlen, hg⟩ := DataW.trod_struct Try.underlying33 hf
    match xs, hlen with
    | [y0, y1], _ =>
      have c22 : Try.prog.cellsOf 23 = 1 := by kernel_rfl
      obtain ⟨A, c, ss, rfl, g1, g2, g3⟩ := ints_of (by simpa [Value.cells, c22] using hg 0 _ rfl)
      obtain ⟨B, e, ws, rfl, k1, k2, k3⟩ := ints_of (by simpa [Value.cells, c22] using hg 1 _ rfl)
      exact ⟨A, c, B, e, ⟨ss, ws⟩, rfl, g1, k1, g3, k3⟩

/-- A row of numbers that came in. -/
theorem ints_open {H : Type} {enc : TypeId × Value → H} {W : World} {base : Nat} {spare : Nat → Bool} {held : Bool} {l c : Nat} {A : Option Addr} {d : DataW H} {p : List MemPlace}
    (h : DataW.Trod enc Try.prog W base spare held 23 (.slice A l c) d p) : ∃ xs : List Int, l = xs.length ∧ xs.length ≤ maxLen ∧ Lies W A (intCells xs) := by
  obtain ⟨fuel, hf⟩ := h
  obtain ⟨A', c', xs, he, g1, _, g3⟩ := ints_of (v := .slice A l c) (by simpa [Value.cells] using hf)
  injection he with e1 e2 e3
  subst e1
  exact ⟨xs, e2, g1, g3⟩
end Go.Proofs.Ytmnamclndpfjnaa
