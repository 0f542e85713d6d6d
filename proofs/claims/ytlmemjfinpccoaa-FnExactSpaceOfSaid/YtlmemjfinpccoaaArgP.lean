/-
  How a row of pointers that a law is called with is opened.
-/
import Derived.Test.YtlmemjfinpccoaaArgs
import Derived.Test.YtlmemjfinpccoaaPtR
import Derived.Deep.Slices
namespace Go.Proofs.Ytlmemjfinpccoaa
open Go.Joins Go.ChangeShapes Go.WideShapes Go.ChangeAt Go.RowKit Go.Deep

theorem int_one {H : Type} {enc : TypeId × Value → H} {W : World} {base : Nat} {spare : Nat → Bool} {held : Bool} {fuel : Nat} {c : Value} {y : DataW H × List MemPlace}
    (h : DataW.trod enc Try.prog W base spare held fuel 3 [c] = some y) : ∃ n : Int, c = .int .i64 n := by
  cases fuel with
  | zero => simp [DataW.trod] at h
  | succ fuel =>
    cases c <;> simp [DataW.trod, Try.underlying3] at h
    rename_i k n
    obtain ⟨⟨rfl, _⟩, _⟩ := h
    exact ⟨n, rfl⟩

instance : Inhabited P5 := ⟨P5.zero⟩
theorem cells82 : Try.prog.cellsOf 82 = 5 := by kernel_rfl

set_option maxRecDepth 100000 in
theorem five_open {H : Type} {enc : TypeId × Value → H} {W : World} {base : Nat} {spare : Nat → Bool} {held : Bool} {fuel : Nat} {cs : List Value} {y : DataW H × List MemPlace}
    (h : DataW.trod enc Try.prog W base spare held fuel 82 cs = some y) (hl : cs.length = 5) : ∃ p : P5, cs = P5.cells p := by
  match cs, hl with
  | [c0, c1, c2, c3, c4], _ =>
    obtain ⟨xs, n, _, hx, _, hlen, hg⟩ := DataW.trod_struct Try.underlying82 h
    match xs, hlen with
    | [y0, y1, y2, y3, y4], _ =>
      have c3 : Try.prog.cellsOf 3 = 1 := by kernel_rfl
      obtain ⟨a, rfl⟩ := int_one (by simpa [Value.cells, c3] using hg 0 _ rfl)
      obtain ⟨b, rfl⟩ := int_one (by simpa [Value.cells, c3] using hg 1 _ rfl)
      obtain ⟨c, rfl⟩ := int_one (by simpa [Value.cells, c3] using hg 2 _ rfl)
      obtain ⟨x, rfl⟩ := int_one (by simpa [Value.cells, c3] using hg 3 _ rfl)
      obtain ⟨y, rfl⟩ := int_one (by simpa [Value.cells, c3] using hg 4 _ rfl)
      exact ⟨⟨a, b, c, x, y⟩, rfl⟩

set_option maxRecDepth 100000 in
theorem ptrs_of {H : Type} {enc : TypeId × Value → H} {W : World} {base : Nat} {spare : Nat → Bool} {held : Bool} {fuel l cap : Nat} {A : Option Addr} {x : DataW H × List MemPlace}
    (h : DataW.trod enc Try.prog W base spare held fuel 44 (Value.cells (.slice A l cap)).toList = some x) :
    ∃ ps : List P5, l = ps.length ∧ ps.length ≤ maxLen ∧ PArg W A ps := by
  rcases open_slice Try.underlying44 h with ⟨hcs, _⟩ | ⟨a, len, cp, m, n, D, Pl, hcs, _, hl, hm, hmm, _, hx⟩
  · simp [Value.cells] at hcs
    obtain ⟨rfl, rfl, rfl⟩ := hcs
    exact ⟨[], rfl, by simp, fun h => by simp at h⟩
  · simp [Value.cells] at hcs
    obtain ⟨rfl, rfl, rfl⟩ := hcs
    have hlm : l ≤ m := by rw [hmm]; split <;> omega
    have each : ∀ i, i < l → ∃ p : P5, ∀ k v, k < 5 → (P5.cells p)[k]? = some v → W.cell? ((a.add (i * 5)).add k) = some v := by
      intro i hi
      obtain ⟨cs', h1, h2⟩ := hx i (by omega)
      rw [cells82] at h1
      obtain ⟨_, hlen, hcell⟩ := World.cells?_some h1
      obtain ⟨p, hp⟩ := five_open h2 hlen
      refine ⟨p, fun k v hk hv => ?_⟩
      have := hcell k hk
      rw [this, hp, hv]
    obtain ⟨f, hf⟩ := choose_lt each
    refine ⟨(List.range l).map f, by simp, by simp; omega, fun h0 => ?_⟩
    have h0' : 0 < l := by simpa using h0
    have hc0 := hf 0 h0' 0 (.int .i64 (f 0).a) (by decide) rfl
    obtain ⟨b, off, spot⟩ := a
    have hspot : spot = none := by simpa [Addr.add] using World.cell?_spot hc0
    subst hspot
    refine ⟨b, off, rfl, World.block_lt_of_cell? W (((⟨b, off, none⟩ : Addr).add (0 * 5)).add 0) hc0, fun j hj k v hk hv => ?_⟩
    have hj' : j < l := by simpa using hj
    have := hf j hj' k v hk (by simpa using hv)
    rw [add_add] at this
    have hplain : (⟨b, off, none⟩ : Addr).add (j * 5 + k) = ⟨b, off + (j * 5 + k), none⟩ := by unfold Addr.add; split <;> simp_all
    rwa [hplain] at this

/-- A row of pointers that came in. -/
theorem ptrs_open {H : Type} {enc : TypeId × Value → H} {W : World} {base : Nat} {spare : Nat → Bool} {held : Bool} {l c : Nat} {A : Option Addr} {d : DataW H} {p : List MemPlace}
    (h : DataW.Trod enc Try.prog W base spare held 44 (.slice A l c) d p) : ∃ ps : List P5, l = ps.length ∧ ps.length ≤ maxLen ∧ PArg W A ps := by
  obtain ⟨fuel, hf⟩ := h
  exact ptrs_of hf
end Go.Proofs.Ytlmemjfinpccoaa
