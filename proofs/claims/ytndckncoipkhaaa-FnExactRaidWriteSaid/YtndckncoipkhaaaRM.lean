/-
  Sets of disks: rows of disks in memory, each with memory of its own.
-/
import Derived.Test.YtndckncoipkhaaaMB
namespace Go.Proofs.Ytndckncoipkhaaa
open Go.RowKit

/-- A disk and where it lies: its two slices, and the blocks from l to h. -/
structure RD where
  a : Option Addr
  c : Nat
  b : Option Addr
  e : Nat
  d : Dk
  l : Nat
  h : Nat
def RD.val (p : RD) : Value := .agg #[.slice p.a p.d.cells.length p.c, .slice p.b p.d.waits.length p.e, .bool p.d.gone]
def RD.trio (p : RD) : List Value := [.slice p.a p.d.cells.length p.c, .slice p.b p.d.waits.length p.e, .bool p.d.gone]
def trios (ps : List RD) : List Value := ps.flatMap RD.trio
def dks (ps : List RD) : List Dk := ps.map RD.d
theorem dks_len (ps : List RD) : (dks ps).length = ps.length := by simp [dks]
theorem trios_len (ps : List RD) : (trios ps).length = ps.length * 3 := by
  induction ps with
  | nil => rfl
  | cons p ps ih =>
    show (RD.trio p ++ trios ps).length = _
    rw [List.length_append, ih, List.length_cons]
    show 3 + _ = _
    omega
theorem trios_app (a b : List RD) : trios (a ++ b) = trios a ++ trios b := by simp [trios]
theorem trios_at : ∀ (ps : List RD) (j k : Nat) (hj : j < ps.length), k < 3 → (trios ps)[j * 3 + k]? = (ps[j].trio)[k]?
  | p :: ps, 0, k, _, hk => by
    show (RD.trio p ++ trios ps)[0 * 3 + k]? = _
    rw [List.getElem?_append_left (by show 0 * 3 + k < 3; omega)]
    simp
  | p :: ps, j + 1, k, hj, hk => by
    show (RD.trio p ++ trios ps)[(j + 1) * 3 + k]? = _
    rw [List.getElem?_append_right (by show 3 ≤ (j + 1) * 3 + k; omega), show (j + 1) * 3 + k - (RD.trio p).length = j * 3 + k by show (j + 1) * 3 + k - 3 = _; omega, trios_at ps j k (by simpa using hj) hk]
    rfl
theorem trios_more (ps : List RD) (k : Nat) (h : k < ps.length) : trios (ps.take (k + 1)) = trios (ps.take k) ++ ps[k].trio := by
  rw [List.take_succ_eq_append_getElem h, trios_app]
  simp [trios]

theorem DkIn.at_ {W : World} {l h : Nat} {p : RD} (k : DkIn W l h p.val p.d) : DkAt W p.a p.b p.d := by
  obtain ⟨A, c, B, e, hv, ha⟩ := k.own.at_
  simp only [RD.val, Value.agg.injEq, Array.mk.injEq, List.cons.injEq, Value.slice.injEq, and_true, true_and] at hv
  obtain ⟨⟨rfl, _⟩, rfl, _⟩ := hv
  exact ha

/-- The rows of disks ps lie apart, in blocks from base to top, none of them g. -/
structure RIn (W : World) (base top : Nat) (g : Option Nat) (ps : List RD) : Prop where
  each : ∀ p ∈ ps, DkIn W p.l p.h p.val p.d ∧ base ≤ p.l ∧ p.l ≤ p.h ∧ p.h ≤ top ∧ ∀ k, g = some k → ¬ (p.l ≤ k ∧ k < p.h)
  apart : ps.Pairwise (fun p q => p.h ≤ q.l ∨ q.h ≤ p.l)
theorem RIn.nil (W : World) (base top : Nat) (g : Option Nat) : RIn W base top g [] := ⟨fun p hp => (by cases hp), .nil⟩
theorem RIn.below {W W' : World} {base top : Nat} {g : Option Nat} {ps : List RD} (h : RIn W base top g ps) (hb : Below W.heap.size W W') : RIn W' base top g ps :=
  ⟨fun p hp => ⟨(h.each p hp).1.below hb, (h.each p hp).2⟩, h.apart⟩
theorem RIn.top {W : World} {base top top' : Nat} {g : Option Nat} {ps : List RD} (h : RIn W base top g ps) (ht : top ≤ top') : RIn W base top' g ps :=
  ⟨fun p hp => ⟨(h.each p hp).1, (h.each p hp).2.1, (h.each p hp).2.2.1, Nat.le_trans (h.each p hp).2.2.2.1 ht, (h.each p hp).2.2.2.2⟩, h.apart⟩
theorem RIn.base {W : World} {base base' top : Nat} {g : Option Nat} {ps : List RD} (h : RIn W base top g ps) (hb : base' ≤ base) : RIn W base' top g ps :=
  ⟨fun p hp => ⟨(h.each p hp).1, Nat.le_trans hb (h.each p hp).2.1, (h.each p hp).2.2⟩, h.apart⟩
theorem RIn.only {W W' : World} {lo hi base top : Nat} {g : Option Nat} {ps : List RD} (h : RIn W base top g ps) (hg : Only lo hi W W') (hn : ∀ p ∈ ps, hi ≤ p.l ∨ p.h ≤ lo) : RIn W' base top g ps :=
  ⟨fun p hp => ⟨(h.each p hp).1.only hg (hn p hp), (h.each p hp).2⟩, h.apart⟩
theorem RIn.onlyOut {W W' : World} {lo hi base top : Nat} {g : Option Nat} {ps : List RD} (h : RIn W base top g ps) (hg : Only lo hi W W') (hn : hi ≤ base ∨ top ≤ lo) : RIn W' base top g ps :=
  h.only hg (fun p hp => by have := h.each p hp; omega)
/-- The row's own block is written. -/
theorem RIn.row {W W' : World} {base top : Nat} {g : Option Nat} {ps : List RD} (h : RIn W base top g ps) (hg : W.grownBy W' g) : RIn W' base top g ps := by
  refine ⟨fun p hp => ⟨?_, (h.each p hp).2⟩, h.apart⟩
  obtain ⟨k, _, _, _, hn⟩ := h.each p hp
  cases g with
  | none => exact k.only (lo := 0) (hi := 0) (Only.of_grown hg (fun k e => by cases e)) (.inl (Nat.zero_le _))
  | some g =>
    have := hn g rfl
    exact k.only (lo := g) (hi := g + 1) (Only.of_grown hg (fun k e => by cases e; omega)) (by omega)
/-- The row moves to another block. -/
theorem RIn.move {W : World} {base top : Nat} {g g' : Option Nat} {ps : List RD} (h : RIn W base top g ps) (hg : g' = g ∨ ∀ k, g' = some k → top ≤ k ∨ k < base) : RIn W base top g' ps := by
  refine ⟨fun p hp => ?_, h.apart⟩
  obtain ⟨k, h1, h2, h3, hn⟩ := h.each p hp
  rcases hg with rfl | hg
  · exact ⟨k, h1, h2, h3, hn⟩
  · exact ⟨k, h1, h2, h3, fun k hk => by have := hg k hk; omega⟩
/-- One more disk, in blocks behind all others. -/
theorem RIn.snoc {W : World} {base top top' : Nat} {g : Option Nat} {ps : List RD} (h : RIn W base top g ps) {p : RD} (hp : DkIn W p.l p.h p.val p.d) (h0 : base ≤ p.l) (h1 : top ≤ p.l) (h2 : p.l ≤ p.h) (h3 : p.h ≤ top') (hg : ∀ k, g = some k → ¬ (p.l ≤ k ∧ k < p.h)) : RIn W base top' g (ps ++ [p]) := by
  refine ⟨fun q hq => ?_, ?_⟩
  · rcases List.mem_append.1 hq with hq | hq
    · obtain ⟨a, b, c, d, e⟩ := h.each q hq
      exact ⟨a, b, c, by omega, e⟩
    · rw [List.mem_singleton] at hq
      subst hq
      exact ⟨hp, h0, h2, h3, hg⟩
  · rw [List.pairwise_append]
    refine ⟨h.apart, List.pairwise_singleton _ _, fun q hq r hr => ?_⟩
    rw [List.mem_singleton] at hr
    subst hr
    have := (h.each q hq).2.2.2.1
    omega
theorem pair_set : ∀ {ps : List RD} {j : Nat} {p : RD}, ps.Pairwise (fun p q => p.h ≤ q.l ∨ q.h ≤ p.l) → (∀ i (h : i < ps.length), i ≠ j → ps[i].h ≤ p.l ∨ p.h ≤ ps[i].l) → (ps.set j p).Pairwise (fun p q => p.h ≤ q.l ∨ q.h ≤ p.l)
  | [], _, _, _, _ => .nil
  | q :: ps, 0, p, h, hn => by
    rw [List.set_cons_zero]
    obtain ⟨h1, h2⟩ := List.pairwise_cons.1 h
    refine List.pairwise_cons.2 ⟨fun r hr => ?_, h2⟩
    obtain ⟨i, hi, rfl⟩ := List.getElem_of_mem hr
    have := hn (i + 1) (by simpa using hi) (by omega)
    simp only [List.getElem_cons_succ] at this
    omega
  | q :: ps, j + 1, p, h, hn => by
    rw [List.set_cons_succ]
    obtain ⟨h1, h2⟩ := List.pairwise_cons.1 h
    refine List.pairwise_cons.2 ⟨fun r hr => ?_, pair_set h2 (fun i hi hne => ?_)⟩
    · rcases List.mem_or_eq_of_mem_set hr with hr | rfl
      · exact h1 r hr
      · have := hn 0 (by simp) (by omega)
        simpa using this
    · have := hn (i + 1) (by simpa using hi) (by omega)
      simpa using this
/-- A disk is put in the place of one: in blocks that are none of the others'. -/
theorem RIn.set {W : World} {base top : Nat} {g : Option Nat} {ps : List RD} (h : RIn W base top g ps) {j : Nat} {p : RD} (hp : DkIn W p.l p.h p.val p.d) (h0 : base ≤ p.l) (h2 : p.l ≤ p.h) (h3 : p.h ≤ top) (hg : ∀ k, g = some k → ¬ (p.l ≤ k ∧ k < p.h)) (hn : ∀ i (h : i < ps.length), i ≠ j → ps[i].h ≤ p.l ∨ p.h ≤ ps[i].l) : RIn W base top g (ps.set j p) := by
  refine ⟨fun q hq => ?_, pair_set h.apart hn⟩
  rcases List.mem_or_eq_of_mem_set hq with hq | rfl
  · exact h.each q hq
  · exact ⟨hp, h0, h2, h3, hg⟩
theorem RIn.others {W : World} {base top : Nat} {g : Option Nat} {ps : List RD} (h : RIn W base top g ps) {j : Nat} (hj : j < ps.length) : ∀ i (hi : i < ps.length), i ≠ j → ps[i].h ≤ ps[j].l ∨ ps[j].h ≤ ps[i].l := fun i hi hne => by
  have := List.pairwise_iff_getElem.1 h.apart
  rcases Nat.lt_or_gt_of_ne hne with h1 | h1
  · exact this i j hi hj h1
  · have := this j i hj hi h1
    omega
/-- One disk is written, in its own blocks. -/
theorem RIn.put {W W' : World} {base top : Nat} {g : Option Nat} {ps : List RD} (h : RIn W base top g ps) {j : Nat} (hj : j < ps.length) {d : Dk} (hlen : d.cells.length = ps[j].d.cells.length ∧ d.waits.length = ps[j].d.waits.length)
    (ho : Only ps[j].l ps[j].h W W') (hp : DkIn W' ps[j].l ps[j].h ({ ps[j] with d := d } : RD).val d) : RIn W' base top g (ps.set j { ps[j] with d := d }) := by
  obtain ⟨_, b1, b2, b3, b4⟩ := h.each ps[j] (List.getElem_mem hj)
  refine ⟨fun q hq => ?_, pair_set h.apart (h.others hj)⟩
  obtain ⟨i, hi, rfl⟩ := List.getElem_of_mem hq
  rw [List.length_set] at hi
  rw [List.getElem_set]
  by_cases e : j = i
  · subst e
    simp only [if_pos]
    exact ⟨hp, b1, b2, b3, b4⟩
  · rw [if_neg e]
    obtain ⟨a, r⟩ := h.each ps[i] (List.getElem_mem hi)
    exact ⟨a.only ho (by have := h.others hj i hi (fun e2 => e e2.symm); omega), r⟩

/-- The disks ps lie in a row of the call's own. -/
def ROwn (W : World) (base : Nat) (u : Value) (ps : List RD) : Prop := W.ownsRow base 60 3 u ps.length (trios ps) ∧ RIn W base W.heap.size u.ownBlock ps
theorem ROwn.below {W W' : World} {base : Nat} {u : Value} {ps : List RD} (h : ROwn W base u ps) (hb : Below W.heap.size W W') : ROwn W' base u ps := ⟨own_bel h.1 hb, (h.2.below hb).top hb.size⟩
theorem ROwn.base {W : World} {base base' : Nat} {u : Value} {ps : List RD} (h : ROwn W base u ps) (hb : base' ≤ base) : ROwn W base' u ps := ⟨own_base h.1 hb, h.2.base hb⟩
/-- The disks ps lie behind a slice address. -/
def RAt (W : World) (A : Option Addr) (ps : List RD) : Prop :=
  (0 < ps.length → ∃ b off, A = some ⟨b, off, none⟩ ∧ b < W.heap.size ∧ ∀ (j : Nat) (hj : j < ps.length) (k : Nat) (v : Value), k < 3 → (ps[j].trio)[k]? = some v → W.cell? ⟨b, off + (j * 3 + k), none⟩ = some v) ∧ ∀ p ∈ ps, DkAt W p.a p.b p.d
theorem RAt.below {W W' : World} {A : Option Addr} {ps : List RD} (h : RAt W A ps) (hb : Below W.heap.size W W') : RAt W' A ps := by
  refine ⟨fun h0 => ?_, fun p hp => (h.2 p hp).below hb⟩
  obtain ⟨b, off, rfl, hlt, hc⟩ := h.1 h0
  exact ⟨b, off, rfl, Nat.lt_of_lt_of_le hlt hb.size, fun j hj k v hk hv => (hb.cell (p := ⟨b, off + (j * 3 + k), none⟩) hlt).trans (hc j hj k v hk hv)⟩
theorem RAt.cell {W : World} {A : Option Addr} {ps : List RD} (h : RAt W A ps) (j : Nat) (hj : j < ps.length) : ∃ b off, A = some ⟨b, off, none⟩ ∧ b < W.heap.size ∧ W.cell? ⟨b, off + j * 3, none⟩ = some (.slice ps[j].a ps[j].d.cells.length ps[j].c) ∧ W.cell? ⟨b, off + j * 3 + 1, none⟩ = some (.slice ps[j].b ps[j].d.waits.length ps[j].e) ∧ W.cell? ⟨b, off + j * 3 + 2, none⟩ = some (.bool ps[j].d.gone) ∧ DkAt W ps[j].a ps[j].b ps[j].d := by
  obtain ⟨b, off, rfl, hlt, hc⟩ := h.1 (by omega)
  exact ⟨b, off, rfl, hlt, hc j hj 0 _ (by decide) rfl, hc j hj 1 _ (by decide) rfl, hc j hj 2 _ (by decide) rfl, h.2 _ (List.getElem_mem hj)⟩
theorem ROwn.at_ {W : World} {base n c : Nat} {A : Option Addr} {ps : List RD} (h : ROwn W base (.slice A n c) ps) : RAt W A ps := by
  obtain ⟨A', c', e, hl⟩ := own_lies h.1
  cases e
  refine ⟨fun h0 => ?_, fun p hp => (h.2.each p hp).1.at_⟩
  obtain ⟨b, off, e, hlt, hc⟩ := hl (by rw [trios_len]; omega)
  exact ⟨b, off, e, hlt, fun j hj k v hk hv => hc (j * 3 + k) v ((trios_at ps j k hj hk).trans hv)⟩
/-- A set of disks is returned, in memory of the call's own. -/
def RPost (R : List Dk) (w : World) (r : Ending) (w' : World) : Prop :=
  ∃ (ps : List RD) (A : Option Addr) (c : Nat), r = .returned (.agg #[.slice A ps.length c]) ∧ dks ps = R ∧ ROwn w' w.heap.size (.slice A ps.length c) ps ∧ Below w.heap.size w w'
def RPost2 (R : List Dk) (b : Bool) (w : World) (r : Ending) (w' : World) : Prop :=
  ∃ (ps : List RD) (A : Option Addr) (c : Nat), r = .returned (.tuple #[.agg #[.slice A ps.length c], .bool b]) ∧ dks ps = R ∧ ROwn w' w.heap.size (.slice A ps.length c) ps ∧ Below w.heap.size w w'

def dz : List Value := [.slice none 0 0, .slice none 0 0, .bool false]
def dzeros (n : Nat) : List Value := (List.replicate n dz).flatten
theorem dzeros_succ (n : Nat) : dzeros (n + 1) = dz ++ dzeros n := by simp [dzeros, List.replicate_succ]
theorem dzeros_len (n : Nat) : (dzeros n).length = n * 3 := by
  induction n with
  | zero => rfl
  | succ n ih =>
    rw [dzeros_succ, List.length_append, ih]
    show 3 + _ = _
    omega
theorem dzeros_at : ∀ (n k i : Nat), k < n → i < 3 → (dzeros n)[k * 3 + i]? = dz[i]?
  | n + 1, 0, i, _, hi => by
    rw [dzeros_succ, List.getElem?_append_left (by show 0 * 3 + i < 3; omega)]
    simp
  | n + 1, k + 1, i, h, hi => by
    rw [dzeros_succ, List.getElem?_append_right (by show 3 ≤ _; omega), show (k + 1) * 3 + i - dz.length = k * 3 + i by show (k + 1) * 3 + i - 3 = _; omega]
    exact dzeros_at n k i (by omega) hi
theorem made_disks (n : Nat) : (madeCells (Value.cells (.agg #[.slice none 0 0, .slice none 0 0, .bool false])) (n * 3)).toList = dzeros n := by
  apply List.ext_getElem?
  intro i
  by_cases h : i < n * 3
  · have hl : i < (madeCells (Value.cells (.agg #[.slice none 0 0, .slice none 0 0, .bool false])) (n * 3)).toList.length := by simp [madeCells]; exact h
    rw [List.getElem?_eq_getElem hl]
    obtain ⟨q, hq⟩ : ∃ q, q = i / 3 := ⟨_, rfl⟩
    have hz := fun j (hj : j < 3) => dzeros_at n q j (by omega) hj
    rcases (show i = q * 3 + 0 ∨ i = q * 3 + 1 ∨ i = q * 3 + 2 by omega) with rfl | rfl | rfl
    · rw [hz 0 (by omega)]
      simp [madeCells, Value.cells, dz, show (q * 3) % 3 = 0 by omega]
    · rw [hz 1 (by omega)]
      simp [madeCells, Value.cells, dz, show (q * 3 + 1) % 3 = 1 by omega]
    · rw [hz 2 (by omega)]
      simp [madeCells, Value.cells, dz, show (q * 3 + 2) % 3 = 2 by omega]
  · rw [List.getElem?_eq_none (by simp [madeCells]; omega), List.getElem?_eq_none (by rw [dzeros_len]; omega)]
theorem set_three (a b c : Value) (L R : List Value) (x y z : Value) (k : Nat) (hl : L.length = k) : (((L ++ a :: b :: c :: R).set k x).set (k + 1) y).set (k + 2) z = L ++ x :: y :: z :: R := by
  subst hl
  simp [List.set_append_right]
end Go.Proofs.Ytndckncoipkhaaa
