/-
  How a disk that a law is called with is opened.
-/
import Derived.Test.YtndckncoipkhaaaKR
import Derived.Test.YtndckncoipkhaaaRows
import Derived.Test.YtndckncoipkhaaaChecked
import Derived.ChangeOld
import Derived.Below
import Derived.Deep.Fields
import Derived.Deep.Slices
import Derived.SliceStrings
import Derived.Lib.SmallJoins
namespace Go.Proofs.Ytndckncoipkhaaa
open Go.Joins Go.ChangeShapes Go.WideShapes Go.ChangeAt Go.RowKit Go.Deep

theorem own : ownKnob Try.prog.godebug = none := by kernel_rfl
theorem laidOut : laidOutB Try.prog = true := by kernel_rfl
theorem cells9' : Try.prog.cellsOf 9 = 1 := by kernel_rfl
theorem cells81 : Try.prog.cellsOf 137 = 2 := by kernel_rfl

theorem int_one {H : Type} {enc : TypeId × Value → H} {W : World} {base : Nat} {spare : Nat → Bool} {held : Bool} {fuel : Nat} {c : Value} {y : DataW H × List MemPlace}
    (h : DataW.trod enc Try.prog W base spare held fuel 3 [c] = some y) : ∃ n : Int, c = .int .i64 n := by
  cases fuel with
  | zero => simp [DataW.trod] at h
  | succ fuel =>
    cases c <;> simp [DataW.trod, Try.underlying3] at h
    rename_i k n
    obtain ⟨⟨rfl, _⟩, _⟩ := h
    exact ⟨n, rfl⟩
theorem str_one {H : Type} {enc : TypeId × Value → H} {W : World} {base : Nat} {spare : Nat → Bool} {held : Bool} {fuel : Nat} {c : Value} {y : DataW H × List MemPlace}
    (h : DataW.trod enc Try.prog W base spare held fuel 9 [c] = some y) : ∃ s : ByteArray, c = .string s ∧ s.size ≤ maxLen := by
  cases fuel with
  | zero => simp [DataW.trod] at h
  | succ fuel =>
    cases c <;> simp [DataW.trod, Try.underlying9] at h
    rename_i s
    exact ⟨s, rfl, h.1⟩
theorem bool_one {H : Type} {enc : TypeId × Value → H} {W : World} {base : Nat} {spare : Nat → Bool} {held : Bool} {fuel : Nat} {c : Value} {y : DataW H × List MemPlace}
    (h : DataW.trod enc Try.prog W base spare held fuel 4 [c] = some y) : ∃ g : Bool, c = .bool g := by
  cases fuel with
  | zero => simp [DataW.trod] at h
  | succ fuel =>
    cases c <;> simp [DataW.trod, Try.underlying4] at h
    rename_i g
    exact ⟨g, rfl⟩

theorem strs_of {H : Type} {enc : TypeId × Value → H} {W : World} {base : Nat} {spare : Nat → Bool} {held : Bool} {fuel : Nat} {v : Value} {x : DataW H × List MemPlace}
    (h : DataW.trod enc Try.prog W base spare held fuel 57 [v] = some x) :
    ∃ (A : Option Addr) (cap : Nat) (ss : List ByteArray), v = .slice A ss.length cap ∧ ss.length ≤ maxLen ∧ (∀ s ∈ ss, s.size ≤ maxLen) ∧ Lies W A (strCells ss) := by
  rcases open_strings Try.underlying57 Try.underlying9 cells9' h with ⟨hcs, _⟩ | ⟨a, len, cp, ss, hcs, _, hl, hm, hlen, _, hcell, hws⟩
  · simp only [List.cons.injEq, and_true] at hcs
    subst hcs
    exact ⟨none, 0, [], rfl, by simp, by simp, Lies.nil _ _⟩
  · simp only [List.cons.injEq, and_true] at hcs
    subst hcs
    have hle : len ≤ ss.length := by rw [hlen]; split <;> omega
    have hlt : (ss.take len).length = len := by simp; omega
    refine ⟨some a, cp, ss.take len, by rw [hlt], by rw [hlt]; omega, fun s hs => hws s (List.mem_of_mem_take hs), fun h0 => ?_⟩
    rw [strCells_len, hlt] at h0
    have hc0 := hcell 0 (by omega)
    obtain ⟨b, off, spot⟩ := a
    have hspot : spot = none := by simpa [Addr.add] using World.cell?_spot hc0
    subst hspot
    refine ⟨b, off, rfl, World.block_lt_of_cell? W (Addr.add ⟨b, off, none⟩ 0) hc0, fun j v hj => ?_⟩
    have hj2 : j < len := by
      have := (List.getElem?_eq_some_iff.1 hj).1
      rw [strCells_len, hlt] at this
      exact this
    have hcj := hcell j (by omega)
    rw [Addr.add_mid] at hcj
    rw [hcj, ← hj, strCells_at _ j (by rw [hlt]; exact hj2)]
    simp [List.getElem?_eq_getElem (show j < ss.length by omega)]

set_option maxRecDepth 100000 in
theorem two_open {H : Type} {enc : TypeId × Value → H} {W : World} {base : Nat} {spare : Nat → Bool} {held : Bool} {fuel : Nat} {cs : List Value} {y : DataW H × List MemPlace}
    (h : DataW.trod enc Try.prog W base spare held fuel 137 cs = some y) (hl : cs.length = 2) : ∃ p : Wt, cs = p.cells ∧ p.text.size ≤ maxLen := by
  match cs, hl with
  | [c0, c1], _ =>
    obtain ⟨xs, n, _, hx, _, hlen, hg⟩ := DataW.trod_struct Try.underlying137 h
    match xs, hlen with
    | [y0, y1], _ =>
      have c3 : Try.prog.cellsOf 3 = 1 := by kernel_rfl
      obtain ⟨a, rfl⟩ := int_one (by simpa [Value.cells, c3] using hg 0 _ rfl)
      obtain ⟨s, rfl, hs⟩ := str_one (by simpa [Value.cells, cells9'] using hg 1 _ rfl)
      exact ⟨⟨a, s⟩, rfl, hs⟩

theorem choose_wt {Q : Nat → Wt → Prop} {n : Nat} (h : ∀ i, i < n → ∃ p, Q i p) : ∃ f : Nat → Wt, ∀ i, i < n → Q i (f i) := by
  refine ⟨fun i => if hi : i < n then (h i hi).choose else ⟨0, none8⟩, fun i hi => ?_⟩
  show Q i (if hi : i < n then (h i hi).choose else ⟨0, none8⟩)
  rw [dif_pos hi]
  exact (h i hi).choose_spec

set_option maxRecDepth 100000 in
theorem waits_of {H : Type} {enc : TypeId × Value → H} {W : World} {base : Nat} {spare : Nat → Bool} {held : Bool} {fuel : Nat} {v : Value} {x : DataW H × List MemPlace}
    (h : DataW.trod enc Try.prog W base spare held fuel 90 [v] = some x) :
    ∃ (A : Option Addr) (cap : Nat) (ws : List Wt), v = .slice A ws.length cap ∧ ws.length ≤ maxLen ∧ (∀ p ∈ ws, p.text.size ≤ maxLen) ∧ Lies W A (wtCells ws) := by
  rcases open_slice Try.underlying90 h with ⟨hcs, _⟩ | ⟨a, len, cp, m, n, D, Pl, hcs, _, hl, hm, hmm, _, hx⟩
  · simp only [List.cons.injEq, and_true] at hcs
    subst hcs
    exact ⟨none, 0, [], rfl, by simp, by simp, Lies.nil _ _⟩
  · simp only [List.cons.injEq, and_true] at hcs
    subst hcs
    have hlm : len ≤ m := by rw [hmm]; split <;> omega
    have each : ∀ i, i < len → ∃ p : Wt, p.text.size ≤ maxLen ∧ ∀ k v, k < 2 → p.cells[k]? = some v → W.cell? ((a.add (i * 2)).add k) = some v := by
      intro i hi
      obtain ⟨cs', h1, h2⟩ := hx i (by omega)
      rw [cells81] at h1
      obtain ⟨_, hlen, hcell⟩ := World.cells?_some h1
      obtain ⟨p, hp, hps⟩ := two_open h2 hlen
      refine ⟨p, hps, fun k v hk hv => ?_⟩
      have := hcell k hk
      rw [this, hp, hv]
    obtain ⟨f, hf⟩ := choose_wt each
    have hlt : ((List.range len).map f).length = len := by simp
    refine ⟨some a, cp, (List.range len).map f, by rw [hlt], by rw [hlt]; omega, fun p hp => ?_, fun h0 => ?_⟩
    · obtain ⟨i, hi, rfl⟩ := List.mem_map.1 hp
      exact (hf i (List.mem_range.1 hi)).1
    rw [wtCells_len, hlt] at h0
    have h0' : 0 < len := by omega
    have hc0 := (hf 0 h0').2 0 (.int .i64 (f 0).num) (by decide) rfl
    obtain ⟨b, off, spot⟩ := a
    have hspot : spot = none := by simpa [Addr.add] using World.cell?_spot hc0
    subst hspot
    refine ⟨b, off, rfl, World.block_lt_of_cell? W (((⟨b, off, none⟩ : Addr).add (0 * 2)).add 0) hc0, fun j v hj => ?_⟩
    have hj2 : j < len * 2 := by
      have := (List.getElem?_eq_some_iff.1 hj).1
      rw [wtCells_len, hlt] at this
      exact this
    obtain ⟨q, hq⟩ : ∃ q, q = j / 2 := ⟨_, rfl⟩
    have hql : q < len := by omega
    have hat := wtCells_at ((List.range len).map f) q (by rw [hlt]; exact hql)
    have hfq : ((List.range len).map f)[q]'(by rw [hlt]; exact hql) = f q := by simp
    rw [hfq] at hat
    have hcell := (hf q hql).2
    rcases (show j = q * 2 ∨ j = q * 2 + 1 by omega) with rfl | rfl
    · have := hcell 0 (.int .i64 (f q).num) (by decide) rfl
      rw [add_add, Addr.add_mid] at this
      rw [hat.1] at hj
      rw [← hj]
      exact this
    · have := hcell 1 (.string (f q).text) (by decide) rfl
      rw [add_add, Addr.add_mid] at this
      rw [hat.2] at hj
      rw [← hj]
      exact this

/-- A disk that came in. -/
structure DArg (W : World) (A : Option Addr) (B : Option Addr) (d : Dk) : Prop where
  n : d.cells.length ≤ maxLen
  s : ∀ s ∈ d.cells, s.size ≤ maxLen
  m : d.waits.length ≤ maxLen
  t : ∀ x ∈ d.waits, x.text.size ≤ maxLen
  at_ : DkAt W A B d

theorem choose_rd {Q : Nat → RD → Prop} {n : Nat} (h : ∀ i, i < n → ∃ p, Q i p) : ∃ f : Nat → RD, ∀ i, i < n → Q i (f i) := by
  refine ⟨fun i => if hi : i < n then (h i hi).choose else ⟨none, 0, none, 0, ⟨[], [], false⟩, 0, 0⟩, fun i hi => ?_⟩
  show Q i (if hi : i < n then (h i hi).choose else _)
  rw [dif_pos hi]
  exact (h i hi).choose_spec

set_option maxRecDepth 100000 in
theorem disk_of {H : Type} {enc : TypeId × Value → H} {W : World} {base : Nat} {spare : Nat → Bool} {held : Bool} {fuel : Nat} {cs : List Value} {y : DataW H × List MemPlace}
    (h : DataW.trod enc Try.prog W base spare held fuel 92 cs = some y) (hl : cs.length = 3) : ∃ p : RD, cs = p.trio ∧ Fits p.d ∧ DkAt W p.a p.b p.d := by
  match cs, hl with
  | [c0, c1, c2], _ =>
    obtain ⟨xs, n, _, hx, _, hlen, hg⟩ := DataW.trod_struct Try.underlying92 h
    match xs, hlen with
    | [y0, y1, y2], _ =>
      have c57 : Try.prog.cellsOf 57 = 1 := by kernel_rfl
      have c90 : Try.prog.cellsOf 90 = 1 := by kernel_rfl
      have c4 : Try.prog.cellsOf 4 = 1 := by kernel_rfl
      obtain ⟨A, c, ss, rfl, g1, g2, g3⟩ := strs_of (by simpa [Value.cells, c57] using hg 0 _ rfl)
      obtain ⟨B, e, ws, rfl, k1, k2, k3⟩ := waits_of (by simpa [Value.cells, c90] using hg 1 _ rfl)
      obtain ⟨g, rfl⟩ := bool_one (by simpa [Value.cells, c4] using hg 2 _ rfl)
      exact ⟨⟨A, c, B, e, ⟨ss, ws, g⟩, 0, 0⟩, rfl, ⟨g1, g2, k1, k2⟩, g3, k3⟩

theorem cells92 : Try.prog.cellsOf 92 = 3 := by kernel_rfl
set_option maxRecDepth 100000 in
theorem disks_of {H : Type} {enc : TypeId × Value → H} {W : World} {base : Nat} {spare : Nat → Bool} {held : Bool} {fuel : Nat} {v : Value} {x : DataW H × List MemPlace}
    (h : DataW.trod enc Try.prog W base spare held fuel 29 [v] = some x) :
    ∃ (A : Option Addr) (cap : Nat) (ps : List RD), v = .slice A ps.length cap ∧ ps.length ≤ maxLen ∧ (∀ p ∈ ps, Fits p.d) ∧ RAt W A ps := by
  rcases open_slice Try.underlying29 h with ⟨hcs, _⟩ | ⟨a, len, cp, m, n, D, Pl, hcs, _, hl, hm, hmm, _, hx⟩
  · simp only [List.cons.injEq, and_true] at hcs
    subst hcs
    exact ⟨none, 0, [], rfl, by simp, by simp, fun h => absurd h (by simp), by simp⟩
  · simp only [List.cons.injEq, and_true] at hcs
    subst hcs
    have hlm : len ≤ m := by rw [hmm]; split <;> omega
    have each : ∀ i, i < len → ∃ p : RD, (Fits p.d ∧ DkAt W p.a p.b p.d) ∧ ∀ k v, k < 3 → p.trio[k]? = some v → W.cell? ((a.add (i * 3)).add k) = some v := by
      intro i hi
      obtain ⟨cs', h1, h2⟩ := hx i (by omega)
      rw [cells92] at h1
      obtain ⟨_, hlen, hcell⟩ := World.cells?_some h1
      obtain ⟨p, hp, hps⟩ := disk_of h2 hlen
      refine ⟨p, hps, fun k v hk hv => ?_⟩
      have := hcell k hk
      rw [this, hp, hv]
    obtain ⟨f, hf⟩ := choose_rd each
    have hlt : ((List.range len).map f).length = len := by simp
    have hall : ∀ p ∈ (List.range len).map f, Fits p.d ∧ DkAt W p.a p.b p.d := fun p hp => by
      obtain ⟨i, hi, rfl⟩ := List.mem_map.1 hp
      exact (hf i (List.mem_range.1 hi)).1
    refine ⟨some a, cp, (List.range len).map f, by rw [hlt], by rw [hlt]; omega, fun p hp => (hall p hp).1, fun h0 => ?_, fun p hp => (hall p hp).2⟩
    rw [hlt] at h0
    have hc0 := (hf 0 h0).2 0 (.slice (f 0).a (f 0).d.cells.length (f 0).c) (by decide) rfl
    obtain ⟨b, off, spot⟩ := a
    have hspot : spot = none := by simpa [Addr.add] using World.cell?_spot hc0
    subst hspot
    refine ⟨b, off, rfl, World.block_lt_of_cell? W (((⟨b, off, none⟩ : Addr).add (0 * 3)).add 0) hc0, fun j hj k v hk hv => ?_⟩
    have hj2 : j < len := by rw [hlt] at hj; exact hj
    have hfq : ((List.range len).map f)[j]'hj = f j := by simp
    rw [hfq] at hv
    have := (hf j hj2).2 k v hk hv
    rw [add_add, Addr.add_mid] at this
    exact this

/-- A set of disks that came in. -/
structure RArg (W : World) (A : Option Addr) (ps : List RD) : Prop where
  n : ps.length ≤ maxLen
  f : ∀ p ∈ ps, Fits p.d
  at_ : RAt W A ps

set_option maxRecDepth 100000 in
theorem raid_open {H : Type} {enc : TypeId × Value → H} {W : World} {base b0 : Nat} {spare : Nat → Bool} {held : Bool} {r : Reach} {v : Value} {d : DataW H} {p : List MemPlace}
    (hv : Value.okWide Try.prog W r b0 31 v) (h : DataW.Trod enc Try.prog W base spare held 31 v d p) : ∃ (A : Option Addr) (c : Nat) (ps : List RD), v = .agg #[.slice A ps.length c] ∧ RArg W A ps := by
  obtain ⟨cs, rfl, hsz⟩ := okWide_struct Try.underlying31 hv
  obtain ⟨l⟩ := cs
  match l, hsz.trans (show Try.prog.cellsOf 31 = 1 by kernel_rfl) with
  | [c0], _ =>
    obtain ⟨fuel, hf⟩ := h
    obtain ⟨xs, n, _, hx, _, hlen, hg⟩ := DataW.trod_struct Try.underlying31 hf
    match xs, hlen with
    | [y0], _ =>
      have c29 : Try.prog.cellsOf 29 = 1 := by kernel_rfl
      obtain ⟨A, c, ps, rfl, g1, g2, g3⟩ := disks_of (by simpa [Value.cells, c29] using hg 0 _ rfl)
      exact ⟨A, c, ps, rfl, g1, g2, g3⟩
end Go.Proofs.Ytndckncoipkhaaa
