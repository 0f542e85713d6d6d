/-
  How a law's arguments are opened: rows of texts and of pointers, a store.
-/
import Derived.Test.YtmnamclndpfjnaaArgs
import Derived.Test.YtmnamclndpfjnaaArgS
import Derived.Deep.Slices
import Derived.SliceStrings
namespace Go.Proofs.Ytmnamclndpfjnaa
open Go.Joins Go.ChangeShapes Go.WideShapes Go.ChangeAt Go.RowKit Go.Deep

theorem int_one {H : Type} {enc : TypeId × Value → H} {W : World} {base : Nat} {spare : Nat → Bool} {held : Bool} {fuel : Nat} {c : Value} {y : DataW H × List MemPlace}
    (h : DataW.trod enc Try.prog W base spare held fuel 3 [c] = some y) : ∃ n : Int, c = .int .i64 n ∧ (Lit.int .i64 n).wf = true := by
  cases fuel with
  | zero => simp [DataW.trod] at h
  | succ fuel =>
    cases c <;> simp [DataW.trod, Try.underlying3] at h
    rename_i k n
    obtain ⟨⟨rfl, h2⟩, _⟩ := h
    exact ⟨n, rfl, h2⟩
theorem bool_one {H : Type} {enc : TypeId × Value → H} {W : World} {base : Nat} {spare : Nat → Bool} {held : Bool} {fuel : Nat} {c : Value} {y : DataW H × List MemPlace}
    (h : DataW.trod enc Try.prog W base spare held fuel 4 [c] = some y) : ∃ b : Bool, c = .bool b := by
  cases fuel with
  | zero => simp [DataW.trod] at h
  | succ fuel =>
    cases c <;> simp [DataW.trod, Try.underlying4] at h
    exact ⟨_, rfl⟩

theorem cells9' : Try.prog.cellsOf 9 = 1 := by kernel_rfl
theorem strs_of {H : Type} {enc : TypeId × Value → H} {W : World} {base : Nat} {spare : Nat → Bool} {held : Bool} {fuel : Nat} {v : Value} {x : DataW H × List MemPlace}
    (h : DataW.trod enc Try.prog W base spare held fuel 22 [v] = some x) :
    ∃ (A : Option Addr) (cap : Nat) (ss : List ByteArray), v = .slice A ss.length cap ∧ ss.length ≤ maxLen ∧ (∀ s ∈ ss, s.size ≤ maxLen) ∧ Lies W A (strCells ss) := by
  rcases open_strings Try.underlying22 Try.underlying9 cells9' h with ⟨hcs, _⟩ | ⟨a, len, cp, ss, hcs, _, hl, hm, hlen, _, hcell, hws⟩
  · simp only [List.cons.injEq, and_true] at hcs
    subst hcs
    exact ⟨none, 0, [], rfl, by simp, by simp, Lies.nil _ _⟩
  · simp only [List.cons.injEq, and_true] at hcs
    subst hcs
    have hle : len ≤ ss.length := by rw [hlen]; split <;> omega
    have hlt : (ss.take len).length = len := by simp; omega
    refine ⟨some a, cp, ss.take len, by rw [hlt], by rw [hlt]; omega, fun s hs => hws s (List.mem_of_mem_take hs), fun h0 => ?_⟩
    rw [strCells_len, hlt] at h0
    have hc0 := hcell 0 (by omega)
    obtain ⟨b, off, spot⟩ := a
    have hspot : spot = none := by simpa [Addr.add] using World.cell?_spot hc0
    subst hspot
    refine ⟨b, off, rfl, World.block_lt_of_cell? W (Addr.add ⟨b, off, none⟩ 0) hc0, fun j v hj => ?_⟩
    have hj2 : j < len := by
      have := (List.getElem?_eq_some_iff.1 hj).1
      rw [strCells_len, hlt] at this
      exact this
    have hcj := hcell j (by omega)
    rw [Addr.add_mid] at hcj
    rw [hcj, ← hj, strCells_at _ j (by rw [hlt]; exact hj2)]
    simp [List.getElem?_eq_getElem (show j < ss.length by omega)]

instance : Inhabited P5 := ⟨P5.zero⟩
theorem cells42 : Try.prog.cellsOf 42 = 5 := by kernel_rfl

set_option maxRecDepth 100000 in
theorem five_open {H : Type} {enc : TypeId × Value → H} {W : World} {base : Nat} {spare : Nat → Bool} {held : Bool} {fuel : Nat} {cs : List Value} {y : DataW H × List MemPlace}
    (h : DataW.trod enc Try.prog W base spare held fuel 42 cs = some y) (hl : cs.length = 5) : ∃ p : P5, cs = P5.cells p ∧ (Lit.int .i64 p.a).wf = true := by
  match cs, hl with
  | [c0, c1, c2, c3, c4], _ =>
    obtain ⟨xs, n, _, hx, _, hlen, hg⟩ := DataW.trod_struct Try.underlying42 h
    match xs, hlen with
    | [y0, y1, y2, y3, y4], _ =>
      have c3 : Try.prog.cellsOf 3 = 1 := by kernel_rfl
      obtain ⟨a, rfl, wa⟩ := int_one (by simpa [Value.cells, c3] using hg 0 _ rfl)
      obtain ⟨b, rfl, wb⟩ := int_one (by simpa [Value.cells, c3] using hg 1 _ rfl)
      obtain ⟨c, rfl, wc⟩ := int_one (by simpa [Value.cells, c3] using hg 2 _ rfl)
      obtain ⟨x, rfl, wx⟩ := int_one (by simpa [Value.cells, c3] using hg 3 _ rfl)
      obtain ⟨y, rfl, wy⟩ := int_one (by simpa [Value.cells, c3] using hg 4 _ rfl)
      exact ⟨⟨a, b, c, x, y⟩, rfl, wa⟩

set_option maxRecDepth 100000 in
theorem ptrs_of {H : Type} {enc : TypeId × Value → H} {W : World} {base : Nat} {spare : Nat → Bool} {held : Bool} {fuel l cap : Nat} {A : Option Addr} {x : DataW H × List MemPlace}
    (h : DataW.trod enc Try.prog W base spare held fuel 34 (Value.cells (.slice A l cap)).toList = some x) :
    ∃ ps : List P5, l = ps.length ∧ ps.length ≤ maxLen ∧ PArg W A ps ∧ ∀ p ∈ ps, (Lit.int .i64 p.a).wf = true := by
  rcases open_slice Try.underlying34 h with ⟨hcs, _⟩ | ⟨a, len, cp, m, n, D, Pl, hcs, _, hl, hm, hmm, _, hx⟩
  · simp [Value.cells] at hcs
    obtain ⟨rfl, rfl, rfl⟩ := hcs
    exact ⟨[], rfl, by simp, fun h => by simp at h, fun p hp => by simp at hp⟩
  · simp [Value.cells] at hcs
    obtain ⟨rfl, rfl, rfl⟩ := hcs
    have hlm : l ≤ m := by rw [hmm]; split <;> omega
    have each : ∀ i, i < l → ∃ p : P5, (∀ k v, k < 5 → (P5.cells p)[k]? = some v → W.cell? ((a.add (i * 5)).add k) = some v) ∧ (Lit.int .i64 p.a).wf = true := by
      intro i hi
      obtain ⟨cs', h1, h2⟩ := hx i (by omega)
      rw [cells42] at h1
      obtain ⟨_, hlen, hcell⟩ := World.cells?_some h1
      obtain ⟨p, hp, hw⟩ := five_open h2 hlen
      refine ⟨p, fun k v hk hv => ?_, hw⟩
      have := hcell k hk
      rw [this, hp, hv]
    obtain ⟨f, hf⟩ := choose_lt each
    refine ⟨(List.range l).map f, by simp, by simp; omega, fun h0 => ?_, fun p hp => by obtain ⟨i, hi, rfl⟩ := List.mem_map.1 hp; exact (hf i (List.mem_range.1 hi)).2⟩
    have h0' : 0 < l := by simpa using h0
    have hc0 := (hf 0 h0').1 0 (.int .i64 (f 0).a) (by decide) rfl
    obtain ⟨b, off, spot⟩ := a
    have hspot : spot = none := by simpa [Addr.add] using World.cell?_spot hc0
    subst hspot
    refine ⟨b, off, rfl, World.block_lt_of_cell? W (((⟨b, off, none⟩ : Addr).add (0 * 5)).add 0) hc0, fun j hj k v hk hv => ?_⟩
    have hj' : j < l := by simpa using hj
    have := (hf j hj').1 k v hk (by simpa using hv)
    rw [add_add] at this
    have hplain : (⟨b, off, none⟩ : Addr).add (j * 5 + k) = ⟨b, off + (j * 5 + k), none⟩ := by unfold Addr.add; split <;> simp_all
    rwa [hplain] at this

theorem ptrs_of1 {H : Type} {enc : TypeId × Value → H} {W : World} {base : Nat} {spare : Nat → Bool} {held : Bool} {fuel : Nat} {v : Value} {x : DataW H × List MemPlace}
    (h : DataW.trod enc Try.prog W base spare held fuel 34 [v] = some x) :
    ∃ (A : Option Addr) (cap : Nat) (ps : List P5), v = .slice A ps.length cap ∧ ps.length ≤ maxLen ∧ PArg W A ps ∧ ∀ p ∈ ps, (Lit.int .i64 p.a).wf = true := by
  have hv : ∃ A l cap, v = .slice A l cap := by
    rcases open_slice Try.underlying34 h with ⟨hcs, _⟩ | ⟨a, len, cp, m, n, D, Pl, hcs, _, hl, hm, hmm, _, hx⟩
    · simp at hcs; exact ⟨_, _, _, hcs⟩
    · simp at hcs; exact ⟨_, _, _, hcs⟩
  obtain ⟨A, l, cap, rfl⟩ := hv
  obtain ⟨ps, rfl, h1, h2, h3⟩ := ptrs_of (A := A) (l := l) (cap := cap) (by simpa [Value.cells] using h)
  exact ⟨A, cap, ps, rfl, h1, h2, h3⟩

set_option maxRecDepth 100000 in
set_option maxHeartbeats 2000000 in
theorem store_open {H : Type} {enc : TypeId × Value → H} {W : World} {base b0 : Nat} {spare : Nat → Bool} {held : Bool} {r : Reach} {v : Value} {d : DataW H} {p : List MemPlace}
    (hv : Value.okWide Try.prog W r b0 36 v) (h : DataW.Trod enc Try.prog W base spare held 36 v d p) : ∃ (x : SA) (s : St), v = (.agg #[.slice x.A s.rows.length x.a, .slice x.R s.sp.refs.length x.r, .slice x.L s.sp.last.length x.l, .int .i64 s.txg, .slice x.G s.gone.length x.g, .int .i64 s.keep, .slice x.D s.dead.length x.d, .bool s.same]) ∧ TArg W x s := by
  obtain ⟨cs, rfl, hsz⟩ := okWide_struct Try.underlying36 hv
  obtain ⟨l⟩ := cs
  match l, hsz.trans (show Try.prog.cellsOf 36 = 8 by kernel_rfl) with
  | [c0, c1, c2, c3, c4, c5, c6, c7], _ =>
    obtain ⟨fuel, hf⟩ := h
    obtain ⟨xs, n, _, hx, _, hlen, hg⟩ := DataW.trod_struct Try.underlying36 hf
    match xs, hlen with
    | [y0, y1, y2, y3, y4, y5, y6], _ =>
      have c22 : Try.prog.cellsOf 22 = 1 := by kernel_rfl
      have c33 : Try.prog.cellsOf 33 = 2 := by kernel_rfl
      have c23 : Try.prog.cellsOf 23 = 1 := by kernel_rfl
      have c3' : Try.prog.cellsOf 3 = 1 := by kernel_rfl
      have c34 : Try.prog.cellsOf 34 = 1 := by kernel_rfl
      have c4' : Try.prog.cellsOf 4 = 1 := by kernel_rfl
      obtain ⟨A, a, ts, rfl, k1, k2, k3⟩ := strs_of (by simpa [Value.cells, c22] using hg 0 _ rfl)
      have hs1 := hg 1 _ rfl
      simp [Value.cells, c33] at hs1
      obtain ⟨xs1, n1, _, hx1, _, hl1, hg1⟩ := DataW.trod_struct Try.underlying33 hs1
      match xs1, hl1 with
      | [z0, z1], _ =>
        obtain ⟨R, r1, rs, rfl, i1, i2, i3⟩ := ints_of (by simpa [Value.cells, c23] using hg1 0 _ rfl)
        obtain ⟨L, l1, ls, rfl, j1, j2, j3⟩ := ints_of (by simpa [Value.cells, c23] using hg1 1 _ rfl)
        obtain ⟨txg, rfl, wt⟩ := int_one (by simpa [Value.cells, c3'] using hg 2 _ rfl)
        obtain ⟨G, g1, gs, rfl, g2, g3, g4⟩ := ptrs_of1 (by simpa [Value.cells, c34] using hg 3 _ rfl)
        obtain ⟨keep, rfl, wk⟩ := int_one (by simpa [Value.cells, c3'] using hg 4 _ rfl)
        obtain ⟨D, d1, ds, rfl, d2, d3, d4⟩ := ptrs_of1 (by simpa [Value.cells, c34] using hg 5 _ rfl)
        obtain ⟨sm, rfl⟩ := bool_one (by simpa [Value.cells, c4'] using hg 6 _ rfl)
        exact ⟨⟨A, a, R, r1, L, l1, G, g1, D, d1⟩, ⟨ts, ⟨rs, ls⟩, txg, gs, keep, ds, sm⟩, rfl, k1, i1, j1, g2, d2, k2, wt, wk, fun p hp => (List.mem_append.1 hp).elim (g4 p) (d4 p), ⟨k3, ⟨i3, j3⟩, g3, d3⟩⟩
end Go.Proofs.Ytmnamclndpfjnaa
