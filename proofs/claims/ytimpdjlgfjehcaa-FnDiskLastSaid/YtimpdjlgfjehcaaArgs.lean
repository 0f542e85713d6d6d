/-
  How a disk that a law is called with is opened.
-/
import Derived.Test.YtimpdjlgfjehcaaMB
import Derived.Test.YtimpdjlgfjehcaaRows
import Derived.Test.YtimpdjlgfjehcaaChecked
import Derived.ChangeOld
import Derived.Below
import Derived.Deep.Fields
import Derived.Deep.Slices
import Derived.SliceStrings
import Derived.Lib.SmallJoins
namespace Go.Proofs.Ytimpdjlgfjehcaa
open Go.Joins Go.ChangeShapes Go.WideShapes Go.ChangeAt Go.RowKit Go.Deep

theorem own : ownKnob Try.prog.godebug = none := by kernel_rfl
theorem laidOut : laidOutB Try.prog = true := by kernel_rfl
theorem cells9' : Try.prog.cellsOf 9 = 1 := by kernel_rfl

theorem int_one {H : Type} {enc : TypeId × Value → H} {W : World} {base : Nat} {spare : Nat → Bool} {held : Bool} {fuel : Nat} {c : Value} {y : DataW H × List MemPlace}
    (h : DataW.trod enc Try.prog W base spare held fuel 3 [c] = some y) : ∃ n : Int, c = .int .i64 n := by
  cases fuel with
  | zero => simp [DataW.trod] at h
  | succ fuel =>
    cases c <;> simp [DataW.trod, Try.underlying3] at h
    rename_i k n
    obtain ⟨⟨rfl, _⟩, _⟩ := h
    exact ⟨n, rfl⟩
theorem str_one {H : Type} {enc : TypeId × Value → H} {W : World} {base : Nat} {spare : Nat → Bool} {held : Bool} {fuel : Nat} {c : Value} {y : DataW H × List MemPlace}
    (h : DataW.trod enc Try.prog W base spare held fuel 9 [c] = some y) : ∃ s : ByteArray, c = .string s ∧ s.size ≤ maxLen := by
  cases fuel with
  | zero => simp [DataW.trod] at h
  | succ fuel =>
    cases c <;> simp [DataW.trod, Try.underlying9] at h
    rename_i s
    exact ⟨s, rfl, h.1⟩
theorem bool_one {H : Type} {enc : TypeId × Value → H} {W : World} {base : Nat} {spare : Nat → Bool} {held : Bool} {fuel : Nat} {c : Value} {y : DataW H × List MemPlace}
    (h : DataW.trod enc Try.prog W base spare held fuel 4 [c] = some y) : ∃ g : Bool, c = .bool g := by
  cases fuel with
  | zero => simp [DataW.trod] at h
  | succ fuel =>
    cases c <;> simp [DataW.trod, Try.underlying4] at h
    rename_i g
    exact ⟨g, rfl⟩

theorem strs_of {H : Type} {enc : TypeId × Value → H} {W : World} {base : Nat} {spare : Nat → Bool} {held : Bool} {fuel : Nat} {v : Value} {x : DataW H × List MemPlace}
    (h : DataW.trod enc Try.prog W base spare held fuel 23 [v] = some x) :
    ∃ (A : Option Addr) (cap : Nat) (ss : List ByteArray), v = .slice A ss.length cap ∧ ss.length ≤ maxLen ∧ (∀ s ∈ ss, s.size ≤ maxLen) ∧ Lies W A (strCells ss) := by
  rcases open_strings Try.underlying23 Try.underlying9 cells9' h with ⟨hcs, _⟩ | ⟨a, len, cp, ss, hcs, _, hl, hm, hlen, _, hcell, hws⟩
  · simp only [List.cons.injEq, and_true] at hcs
    subst hcs
    exact ⟨none, 0, [], rfl, by simp, by simp, Lies.nil _ _⟩
  · simp only [List.cons.injEq, and_true] at hcs
    subst hcs
    have hle : len ≤ ss.length := by rw [hlen]; split <;> omega
    have hlt : (ss.take len).length = len := by simp; omega
    refine ⟨some a, cp, ss.take len, by rw [hlt], by rw [hlt]; omega, fun s hs => hws s (List.mem_of_mem_take hs), fun h0 => ?_⟩
    rw [strCells_len, hlt] at h0
    have hc0 := hcell 0 (by omega)
    obtain ⟨b, off, spot⟩ := a
    have hspot : spot = none := by simpa [Addr.add] using World.cell?_spot hc0
    subst hspot
    refine ⟨b, off, rfl, World.block_lt_of_cell? W (Addr.add ⟨b, off, none⟩ 0) hc0, fun j v hj => ?_⟩
    have hj2 : j < len := by
      have := (List.getElem?_eq_some_iff.1 hj).1
      rw [strCells_len, hlt] at this
      exact this
    have hcj := hcell j (by omega)
    rw [Addr.add_mid] at hcj
    rw [hcj, ← hj, strCells_at _ j (by rw [hlt]; exact hj2)]
    simp [List.getElem?_eq_getElem (show j < ss.length by omega)]

theorem choose_wt {Q : Nat → Wt → Prop} {n : Nat} (h : ∀ i, i < n → ∃ p, Q i p) : ∃ f : Nat → Wt, ∀ i, i < n → Q i (f i) := by
  refine ⟨fun i => if hi : i < n then (h i hi).choose else ⟨0, none8⟩, fun i hi => ?_⟩
  show Q i (if hi : i < n then (h i hi).choose else ⟨0, none8⟩)
  rw [dif_pos hi]
  exact (h i hi).choose_spec

/-- A disk that came in. -/
structure DArg (W : World) (A : Option Addr) (B : Option Addr) (d : Dk) : Prop where
  n : d.cells.length ≤ maxLen
  s : ∀ s ∈ d.cells, s.size ≤ maxLen
  m : d.waits.length ≤ maxLen
  t : ∀ x ∈ d.waits, x.text.size ≤ maxLen
  at_ : DkAt W A B d

end Go.Proofs.Ytimpdjlgfjehcaa
