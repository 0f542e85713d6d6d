/-
  How a node that a law is called with is opened: ten integers.
-/
import Derived.Test.YtehmaacbmkfedaaDoorNto
import Derived.Test.YtehmaacbmkfedaaDoorRows
import Derived.ChangeOld
import Derived.Below
import Derived.Deep.Fields
import Derived.Lib.SmallJoins
namespace Go.Proofs.YtehmaacbmkfedaaDoor
open Go.Joins Go.ChangeShapes Go.WideShapes Go.ChangeAt Go.RowKit Go.Deep

theorem own : ownKnob Tryd.prog.godebug = none := by kernel_rfl
theorem laidOut : laidOutB Tryd.prog = true := by kernel_rfl

theorem int_one {H : Type} {enc : TypeId × Value → H} {W : World} {base : Nat} {spare : Nat → Bool} {held : Bool} {fuel : Nat} {c : Value} {y : DataW H × List MemPlace}
    (h : DataW.trod enc Tryd.prog W base spare held fuel 3 [c] = some y) : ∃ n : Int, c = .int .i64 n := by
  cases fuel with
  | zero => simp [DataW.trod] at h
  | succ fuel =>
    cases c <;> simp [DataW.trod, Tryd.underlying3] at h
    rename_i k n
    obtain ⟨⟨rfl, _⟩, _⟩ := h
    exact ⟨n, rfl⟩
theorem five_open {H : Type} {enc : TypeId × Value → H} {W : World} {base : Nat} {spare : Nat → Bool} {held : Bool} {fuel : Nat} {cs : List Value} {y : DataW H × List MemPlace}
    (h : DataW.trod enc Tryd.prog W base spare held fuel 23 cs = some y) (hl : cs.length = 5) : ∃ a b c x y : Int, cs = [.int .i64 a, .int .i64 b, .int .i64 c, .int .i64 x, .int .i64 y] := by
  match cs, hl with
  | [c0, c1, c2, c3, c4], _ =>
    obtain ⟨xs, n, _, hx, _, hlen, hg⟩ := DataW.trod_struct Tryd.underlying23 h
    match xs, hlen with
    | [y0, y1, y2, y3, y4], _ =>
      have c3' : Tryd.prog.cellsOf 3 = 1 := by kernel_rfl
      obtain ⟨a, rfl⟩ := int_one (by simpa [Value.cells, c3'] using hg 0 _ rfl)
      obtain ⟨b, rfl⟩ := int_one (by simpa [Value.cells, c3'] using hg 1 _ rfl)
      obtain ⟨c, rfl⟩ := int_one (by simpa [Value.cells, c3'] using hg 2 _ rfl)
      obtain ⟨x, rfl⟩ := int_one (by simpa [Value.cells, c3'] using hg 3 _ rfl)
      obtain ⟨y, rfl⟩ := int_one (by simpa [Value.cells, c3'] using hg 4 _ rfl)
      exact ⟨a, b, c, x, y, rfl⟩
theorem seven_open {H : Type} {enc : TypeId × Value → H} {W : World} {base : Nat} {spare : Nat → Bool} {held : Bool} {fuel : Nat} {cs : List Value} {y : DataW H × List MemPlace}
    (h : DataW.trod enc Tryd.prog W base spare held fuel 25 cs = some y) (hl : cs.length = 7) : ∃ a b c x y dep many : Int, cs = [.int .i64 a, .int .i64 b, .int .i64 c, .int .i64 x, .int .i64 y, .int .i64 dep, .int .i64 many] := by
  match cs, hl with
  | [c0, c1, c2, c3, c4, c5, c6], _ =>
    obtain ⟨xs, n, _, hx, _, hlen, hg⟩ := DataW.trod_struct Tryd.underlying25 h
    match xs, hlen with
    | [y0, y1, y2], _ =>
      have c30 : Tryd.prog.cellsOf 23 = 5 := by kernel_rfl
      have c3' : Tryd.prog.cellsOf 3 = 1 := by kernel_rfl
      have hs1 := hg 0 _ rfl
      simp [c30] at hs1
      obtain ⟨a, b, c, x, y, hq⟩ := five_open hs1 rfl
      obtain ⟨m, rfl⟩ := int_one (by simpa [Value.cells, c3'] using hg 1 _ rfl)
      obtain ⟨k, rfl⟩ := int_one (by simpa [Value.cells, c3'] using hg 2 _ rfl)
      simp only [List.cons.injEq, and_true] at hq
      obtain ⟨rfl, rfl, rfl, rfl, rfl⟩ := hq
      exact ⟨a, b, c, x, y, m, k, rfl⟩

set_option maxRecDepth 100000 in
theorem node_open {H : Type} {enc : TypeId × Value → H} {W : World} {base b0 : Nat} {spare : Nat → Bool} {held : Bool} {r : Reach} {v : Value} {d : DataW H} {p : List MemPlace}
    (hv : Value.okWide Tryd.prog W r b0 27 v) (h : DataW.Trod enc Tryd.prog W base spare held 27 v d p) : ∃ kind links size a b c x y dep many : Int, v = .agg #[.int .i64 kind, .int .i64 links, .int .i64 size, .int .i64 a, .int .i64 b, .int .i64 c, .int .i64 x, .int .i64 y, .int .i64 dep, .int .i64 many] := by
  obtain ⟨cs, rfl, hsz⟩ := okWide_struct Tryd.underlying27 hv
  obtain ⟨l⟩ := cs
  match l, hsz.trans (show Tryd.prog.cellsOf 27 = 10 by kernel_rfl) with
  | [c0, c1, c2, c3, c4, c5, c6, c7, c8, c9], _ =>
    obtain ⟨fuel, hf⟩ := h
    obtain ⟨xs, n, _, hx, _, hlen, hg⟩ := DataW.trod_struct Tryd.underlying27 hf
    match xs, hlen with
    | [y0, y1, y2, y3], _ =>
      have c7 : Tryd.prog.cellsOf 25 = 7 := by kernel_rfl
      have c3' : Tryd.prog.cellsOf 3 = 1 := by kernel_rfl
      obtain ⟨kind, rfl⟩ := int_one (by simpa [Value.cells, c3'] using hg 0 _ rfl)
      obtain ⟨links, rfl⟩ := int_one (by simpa [Value.cells, c3'] using hg 1 _ rfl)
      obtain ⟨size, rfl⟩ := int_one (by simpa [Value.cells, c3'] using hg 2 _ rfl)
      have hs1 := hg 3 _ rfl
      simp [Value.cells, c7] at hs1
      obtain ⟨a, b, c, x, y, dep, many, hq⟩ := seven_open hs1 rfl
      simp only [List.cons.injEq, and_true] at hq
      obtain ⟨rfl, rfl, rfl, rfl, rfl, rfl, rfl⟩ := hq
      exact ⟨kind, links, size, a, b, c, x, y, dep, many, rfl⟩
end Go.Proofs.YtehmaacbmkfedaaDoor
