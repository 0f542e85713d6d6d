/-
  How a pointer that a law is called with is opened: five integers.
-/
import Derived.Test.YtlfggmllpbghaaaDoorPut
import Derived.Test.YtlfggmllpbghaaaDoorLaid
import Derived.ChangeOld
import Derived.Below
import Derived.Deep.Fields
import Derived.Lib.SmallJoins
namespace Go.Proofs.YtlfggmllpbghaaaDoor
open Go.Joins Go.ChangeShapes Go.WideShapes Go.ChangeAt Go.RowKit Go.Deep

set_option maxRecDepth 100000 in
theorem int_one {H : Type} {enc : TypeId × Value → H} {W : World} {base : Nat} {spare : Nat → Bool} {held : Bool} {fuel : Nat} {c : Value} {y : DataW H × List MemPlace}
    (h : DataW.trod enc Tryd.prog W base spare held fuel 3 [c] = some y) : ∃ n : Int, c = .int .i64 n := by
  cases fuel with
  | zero => simp [DataW.trod] at h
  | succ fuel =>
    cases c <;> simp [DataW.trod, Tryd.underlying3] at h
    rename_i k n
    obtain ⟨⟨rfl, _⟩, _⟩ := h
    exact ⟨n, rfl⟩

set_option maxRecDepth 100000 in
theorem ptr_open {H : Type} {enc : TypeId × Value → H} {W : World} {base b0 : Nat} {spare : Nat → Bool} {held : Bool} {r : Reach} {v : Value} {d : DataW H} {p : List MemPlace}
    (hv : Value.okWide Tryd.prog W r b0 40 v) (h : DataW.Trod enc Tryd.prog W base spare held 40 v d p) : ∃ a b c x y : Int, v = .agg #[.int .i64 a, .int .i64 b, .int .i64 c, .int .i64 x, .int .i64 y] := by
  obtain ⟨cs, rfl, hsz⟩ := okWide_struct Tryd.underlying40 hv
  obtain ⟨l⟩ := cs
  match l, hsz.trans (show Tryd.prog.cellsOf 40 = 5 by kernel_rfl) with
  | [c0, c1, c2, c3, c4], _ =>
    obtain ⟨fuel, hf⟩ := h
    obtain ⟨xs, n, _, hx, _, hlen, hg⟩ := DataW.trod_struct Tryd.underlying40 hf
    match xs, hlen with
    | [y0, y1, y2, y3, y4], _ =>
      have c3 : Tryd.prog.cellsOf 3 = 1 := by kernel_rfl
      obtain ⟨a, rfl⟩ := int_one (by simpa [Value.cells, c3] using hg 0 _ rfl)
      obtain ⟨b, rfl⟩ := int_one (by simpa [Value.cells, c3] using hg 1 _ rfl)
      obtain ⟨c, rfl⟩ := int_one (by simpa [Value.cells, c3] using hg 2 _ rfl)
      obtain ⟨x, rfl⟩ := int_one (by simpa [Value.cells, c3] using hg 3 _ rfl)
      obtain ⟨y, rfl⟩ := int_one (by simpa [Value.cells, c3] using hg 4 _ rfl)
      exact ⟨a, b, c, x, y, rfl⟩

end Go.Proofs.YtlfggmllpbghaaaDoor
