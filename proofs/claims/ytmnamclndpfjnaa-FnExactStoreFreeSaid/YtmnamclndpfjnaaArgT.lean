/-
  How a pointer that a law is called with is opened.
-/
import Derived.Test.YtmnamclndpfjnaaArgU
namespace Go.Proofs.Ytmnamclndpfjnaa
open Go.Joins Go.ChangeShapes Go.WideShapes Go.ChangeAt Go.RowKit Go.Deep

set_option maxRecDepth 100000 in
theorem ptr_open {H : Type} {enc : TypeId × Value → H} {W : World} {base b0 : Nat} {spare : Nat → Bool} {held : Bool} {r : Reach} {v : Value} {d : DataW H} {p : List MemPlace}
    (hv : Value.okWide Try.prog W r b0 42 v) (h : DataW.Trod enc Try.prog W base spare held 42 v d p) : ∃ a b c x y : Int, v = .agg #[.int .i64 a, .int .i64 b, .int .i64 c, .int .i64 x, .int .i64 y] := by
  obtain ⟨cs, rfl, hsz⟩ := okWide_struct Try.underlying42 hv
  obtain ⟨l⟩ := cs
  match l, hsz.trans (show Try.prog.cellsOf 42 = 5 by kernel_rfl) with
  | [c0, c1, c2, c3, c4], _ =>
    obtain ⟨fuel, hf⟩ := h
    obtain ⟨xs, n, _, hx, _, hlen, hg⟩ := DataW.trod_struct Try.underlying42 hf
    match xs, hlen with
    | [y0, y1, y2, y3, y4], _ =>
      have c3 : Try.prog.cellsOf 3 = 1 := by kernel_rfl
      obtain ⟨a, rfl, _⟩ := int_one (by simpa [Value.cells, c3] using hg 0 _ rfl)
      obtain ⟨b, rfl, _⟩ := int_one (by simpa [Value.cells, c3] using hg 1 _ rfl)
      obtain ⟨c, rfl, _⟩ := int_one (by simpa [Value.cells, c3] using hg 2 _ rfl)
      obtain ⟨x, rfl, _⟩ := int_one (by simpa [Value.cells, c3] using hg 3 _ rfl)
      obtain ⟨y, rfl, _⟩ := int_one (by simpa [Value.cells, c3] using hg 4 _ rfl)
      exact ⟨a, b, c, x, y, rfl⟩
end Go.Proofs.Ytmnamclndpfjnaa
