/-
  Sets of disks: rows of disks in memory, each with memory of its own.
  Sets of disks: their weight, a law's copy of one, whether two are equal.
  Sets of disks: a law's copy of one, whether two are equal, the marks of a law.
  Sets of disks: the marks of a law.
-/
import Derived.Test.YtndckncoipkhaaaMB

namespace Go.Proofs.Ytndckncoipkhaaa
open Go.RowKit

/-- A disk and where it lies: its two slices, and the blocks from l to h. -/
structure RD where
  a : Option Addr
  c : Nat
  b : Option Addr
  e : Nat
  d : Dk
  l : Nat
  h : Nat
def RD.val (p : RD) : Value := .agg #[.slice p.a p.d.cells.length p.c, .slice p.b p.d.waits.length p.e, .bool p.d.gone]
def RD.trio (p : RD) : List Value := [.slice p.a p.d.cells.length p.c, .slice p.b p.d.waits.length p.e, .bool p.d.gone]
def trios (ps : List RD) : List Value := ps.flatMap RD.trio
def dks (ps : List RD) : List Dk := ps.map RD.d
theorem dks_len (ps : List RD) : (dks ps).length = ps.length := by simp [dks]
theorem trios_len (ps : List RD) : (trios ps).length = ps.length * 3 := by
  induction ps with
  | nil => rfl
  | cons p ps ih =>
    show (RD.trio p ++ trios ps).length = _
    rw [List.length_append, ih, List.length_cons]
    show 3 + _ = _
    omega
theorem trios_app (a b : List RD) : trios (a ++ b) = trios a ++ trios b := by simp [trios]
theorem trios_at : ∀ (ps : List RD) (j k : Nat) (hj : j < ps.length), k < 3 → (trios ps)[j * 3 + k]? = (ps[j].trio)[k]?
  | p :: ps, 0, k, _, hk => by
    show (RD.trio p ++ trios ps)[0 * 3 + k]? = _
    rw [List.getElem?_append_left (by show 0 * 3 + k < 3; omega)]
    simp
  | p :: ps, j + 1, k, hj, hk => by
    show (RD.trio p ++ trios ps)[(j + 1) * 3 + k]? = _
    rw [List.getElem?_append_right (by show 3 ≤ (j + 1) * 3 + k; omega), show (j + 1) * 3 + k - (RD.trio p).length = j * 3 + k by show (j + 1) * 3 + k - 3 = _; omega, trios_at ps j k (by simpa using hj) hk]
    rfl
theorem trios_more (ps : List RD) (k : Nat) (h : k < ps.length) : trios (ps.take (k + 1)) = trios (ps.take k) ++ ps[k].trio := by
  rw [List.take_succ_eq_append_getElem h, trios_app]
  simp [trios]

theorem DkIn.at_ {W : World} {l h : Nat} {p : RD} (k : DkIn W l h p.val p.d) : DkAt W p.a p.b p.d := by
  obtain ⟨A, c, B, e, hv, ha⟩ := k.own.at_
  simp only [RD.val, Value.agg.injEq, Array.mk.injEq, List.cons.injEq, Value.slice.injEq, and_true, true_and] at hv
  obtain ⟨⟨rfl, _⟩, rfl, _⟩ := hv
  exact ha

/-- The rows of disks ps lie apart, in blocks from base to top, none of them g. -/
structure RIn (W : World) (base top : Nat) (g : Option Nat) (ps : List RD) : Prop where
  each : ∀ p ∈ ps, DkIn W p.l p.h p.val p.d ∧ base ≤ p.l ∧ p.l ≤ p.h ∧ p.h ≤ top ∧ ∀ k, g = some k → ¬ (p.l ≤ k ∧ k < p.h)
  apart : ps.Pairwise (fun p q => p.h ≤ q.l ∨ q.h ≤ p.l)
theorem RIn.nil (W : World) (base top : Nat) (g : Option Nat) : RIn W base top g [] := ⟨fun p hp => (by cases hp), .nil⟩
theorem RIn.below {W W' : World} {base top : Nat} {g : Option Nat} {ps : List RD} (h : RIn W base top g ps) (hb : Below W.heap.size W W') : RIn W' base top g ps :=
  ⟨fun p hp => ⟨(h.each p hp).1.below hb, (h.each p hp).2⟩, h.apart⟩
theorem RIn.top {W : World} {base top top' : Nat} {g : Option Nat} {ps : List RD} (h : RIn W base top g ps) (ht : top ≤ top') : RIn W base top' g ps :=
  ⟨fun p hp => ⟨(h.each p hp).1, (h.each p hp).2.1, (h.each p hp).2.2.1, Nat.le_trans (h.each p hp).2.2.2.1 ht, (h.each p hp).2.2.2.2⟩, h.apart⟩
theorem RIn.base {W : World} {base base' top : Nat} {g : Option Nat} {ps : List RD} (h : RIn W base top g ps) (hb : base' ≤ base) : RIn W base' top g ps :=
  ⟨fun p hp => ⟨(h.each p hp).1, Nat.le_trans hb (h.each p hp).2.1, (h.each p hp).2.2⟩, h.apart⟩
theorem RIn.only {W W' : World} {lo hi base top : Nat} {g : Option Nat} {ps : List RD} (h : RIn W base top g ps) (hg : Only lo hi W W') (hn : ∀ p ∈ ps, hi ≤ p.l ∨ p.h ≤ lo) : RIn W' base top g ps :=
  ⟨fun p hp => ⟨(h.each p hp).1.only hg (hn p hp), (h.each p hp).2⟩, h.apart⟩
theorem RIn.onlyOut {W W' : World} {lo hi base top : Nat} {g : Option Nat} {ps : List RD} (h : RIn W base top g ps) (hg : Only lo hi W W') (hn : hi ≤ base ∨ top ≤ lo) : RIn W' base top g ps :=
  h.only hg (fun p hp => by have := h.each p hp; omega)
/-- The row's own block is written. -/
theorem RIn.row {W W' : World} {base top : Nat} {g : Option Nat} {ps : List RD} (h : RIn W base top g ps) (hg : W.grownBy W' g) : RIn W' base top g ps := by
  refine ⟨fun p hp => ⟨?_, (h.each p hp).2⟩, h.apart⟩
  obtain ⟨k, _, _, _, hn⟩ := h.each p hp
  cases g with
  | none => exact k.only (lo := 0) (hi := 0) (Only.of_grown hg (fun k e => by cases e)) (.inl (Nat.zero_le _))
  | some g =>
    have := hn g rfl
    exact k.only (lo := g) (hi := g + 1) (Only.of_grown hg (fun k e => by cases e; omega)) (by omega)
/-- The row moves to another block. -/
theorem RIn.move {W : World} {base top : Nat} {g g' : Option Nat} {ps : List RD} (h : RIn W base top g ps) (hg : g' = g ∨ ∀ k, g' = some k → top ≤ k ∨ k < base) : RIn W base top g' ps := by
  refine ⟨fun p hp => ?_, h.apart⟩
  obtain ⟨k, h1, h2, h3, hn⟩ := h.each p hp
  rcases hg with rfl | hg
  · exact ⟨k, h1, h2, h3, hn⟩
  · exact ⟨k, h1, h2, h3, fun k hk => by have := hg k hk; omega⟩
/-- One more disk, in blocks behind all others. -/
theorem RIn.snoc {W : World} {base top top' : Nat} {g : Option Nat} {ps : List RD} (h : RIn W base top g ps) {p : RD} (hp : DkIn W p.l p.h p.val p.d) (h0 : base ≤ p.l) (h1 : top ≤ p.l) (h2 : p.l ≤ p.h) (h3 : p.h ≤ top') (hg : ∀ k, g = some k → ¬ (p.l ≤ k ∧ k < p.h)) : RIn W base top' g (ps ++ [p]) := by
  refine ⟨fun q hq => ?_, ?_⟩
  · rcases List.mem_append.1 hq with hq | hq
    · obtain ⟨a, b, c, d, e⟩ := h.each q hq
      exact ⟨a, b, c, by omega, e⟩
    · rw [List.mem_singleton] at hq
      subst hq
      exact ⟨hp, h0, h2, h3, hg⟩
  · rw [List.pairwise_append]
    refine ⟨h.apart, List.pairwise_singleton _ _, fun q hq r hr => ?_⟩
    rw [List.mem_singleton] at hr
    subst hr
    have := (h.each q hq).2.2.2.1
    omega
theorem pair_set : ∀ {ps : List RD} {j : Nat} {p : RD}, ps.Pairwise (fun p q => p.h ≤ q.l ∨ q.h ≤ p.l) → (∀ i (h : i < ps.length), i ≠ j → ps[i].h ≤ p.l ∨ p.h ≤ ps[i].l) → (ps.set j p).Pairwise (fun p q => p.h ≤ q.l ∨ q.h ≤ p.l)
  | [], _, _, _, _ => .nil
  | q :: ps, 0, p, h, hn => by
    rw [List.set_cons_zero]
    obtain ⟨h1, h2⟩ := List.pairwise_cons.1 h
    refine List.pairwise_cons.2 ⟨fun r hr => ?_, h2⟩
    obtain ⟨i, hi, rfl⟩ := List.getElem_of_mem hr
    have := hn (i + 1) (by simpa using hi) (by omega)
    simp only [List.getElem_cons_succ] at this
    omega
  | q :: ps, j + 1, p, h, hn => by
    rw [List.set_cons_succ]
    obtain ⟨h1, h2⟩ := List.pairwise_cons.1 h
    refine List.pairwise_cons.2 ⟨fun r hr => ?_, pair_set h2 (fun i hi hne => ?_)⟩
    · rcases List.mem_or_eq_of_mem_set hr with hr | rfl
      · exact h1 r hr
      · have := hn 0 (by simp) (by omega)
        simpa using this
    · have := hn (i + 1) (by simpa using hi) (by omega)
      simpa using this
/-- A disk is put in the place of one: in blocks that are none of the others'. -/
theorem RIn.set {W : World} {base top : Nat} {g : Option Nat} {ps : List RD} (h : RIn W base top g ps) {j : Nat} {p : RD} (hp : DkIn W p.l p.h p.val p.d) (h0 : base ≤ p.l) (h2 : p.l ≤ p.h) (h3 : p.h ≤ top) (hg : ∀ k, g = some k → ¬ (p.l ≤ k ∧ k < p.h)) (hn : ∀ i (h : i < ps.length), i ≠ j → ps[i].h ≤ p.l ∨ p.h ≤ ps[i].l) : RIn W base top g (ps.set j p) := by
  refine ⟨fun q hq => ?_, pair_set h.apart hn⟩
  rcases List.mem_or_eq_of_mem_set hq with hq | rfl
  · exact h.each q hq
  · exact ⟨hp, h0, h2, h3, hg⟩
theorem RIn.others {W : World} {base top : Nat} {g : Option Nat} {ps : List RD} (h : RIn W base top g ps) {j : Nat} (hj : j < ps.length) : ∀ i (hi : i < ps.length), i ≠ j → ps[i].h ≤ ps[j].l ∨ ps[j].h ≤ ps[i].l := fun i hi hne => by
  have := List.pairwise_iff_getElem.1 h.apart
  rcases Nat.lt_or_gt_of_ne hne with h1 | h1
  · exact this i j hi hj h1
  · have := this j i hj hi h1
    omega
/-- One disk is written, in its own blocks. -/
theorem RIn.put {W W' : World} {base top : Nat} {g : Option Nat} {ps : List RD} (h : RIn W base top g ps) {j : Nat} (hj : j < ps.length) {d : Dk} (hlen : d.cells.length = ps[j].d.cells.length ∧ d.waits.length = ps[j].d.waits.length)
    (ho : Only ps[j].l ps[j].h W W') (hp : DkIn W' ps[j].l ps[j].h ({ ps[j] with d := d } : RD).val d) : RIn W' base top g (ps.set j { ps[j] with d := d }) := by
  obtain ⟨_, b1, b2, b3, b4⟩ := h.each ps[j] (List.getElem_mem hj)
  refine ⟨fun q hq => ?_, pair_set h.apart (h.others hj)⟩
  obtain ⟨i, hi, rfl⟩ := List.getElem_of_mem hq
  rw [List.length_set] at hi
  rw [List.getElem_set]
  by_cases e : j = i
  · subst e
    simp only [if_pos]
    exact ⟨hp, b1, b2, b3, b4⟩
  · rw [if_neg e]
    obtain ⟨a, r⟩ := h.each ps[i] (List.getElem_mem hi)
    exact ⟨a.only ho (by have := h.others hj i hi (fun e2 => e e2.symm); omega), r⟩

/-- The disks ps lie in a row of the call's own. -/
def ROwn (W : World) (base : Nat) (u : Value) (ps : List RD) : Prop := W.ownsRow base 60 3 u ps.length (trios ps) ∧ RIn W base W.heap.size u.ownBlock ps
theorem ROwn.below {W W' : World} {base : Nat} {u : Value} {ps : List RD} (h : ROwn W base u ps) (hb : Below W.heap.size W W') : ROwn W' base u ps := ⟨own_bel h.1 hb, (h.2.below hb).top hb.size⟩
theorem ROwn.base {W : World} {base base' : Nat} {u : Value} {ps : List RD} (h : ROwn W base u ps) (hb : base' ≤ base) : ROwn W base' u ps := ⟨own_base h.1 hb, h.2.base hb⟩
/-- The disks ps lie behind a slice address. -/
def RAt (W : World) (A : Option Addr) (ps : List RD) : Prop :=
  (0 < ps.length → ∃ b off, A = some ⟨b, off, none⟩ ∧ b < W.heap.size ∧ ∀ (j : Nat) (hj : j < ps.length) (k : Nat) (v : Value), k < 3 → (ps[j].trio)[k]? = some v → W.cell? ⟨b, off + (j * 3 + k), none⟩ = some v) ∧ ∀ p ∈ ps, DkAt W p.a p.b p.d
theorem RAt.below {W W' : World} {A : Option Addr} {ps : List RD} (h : RAt W A ps) (hb : Below W.heap.size W W') : RAt W' A ps := by
  refine ⟨fun h0 => ?_, fun p hp => (h.2 p hp).below hb⟩
  obtain ⟨b, off, rfl, hlt, hc⟩ := h.1 h0
  exact ⟨b, off, rfl, Nat.lt_of_lt_of_le hlt hb.size, fun j hj k v hk hv => (hb.cell (p := ⟨b, off + (j * 3 + k), none⟩) hlt).trans (hc j hj k v hk hv)⟩
theorem RAt.cell {W : World} {A : Option Addr} {ps : List RD} (h : RAt W A ps) (j : Nat) (hj : j < ps.length) : ∃ b off, A = some ⟨b, off, none⟩ ∧ b < W.heap.size ∧ W.cell? ⟨b, off + j * 3, none⟩ = some (.slice ps[j].a ps[j].d.cells.length ps[j].c) ∧ W.cell? ⟨b, off + j * 3 + 1, none⟩ = some (.slice ps[j].b ps[j].d.waits.length ps[j].e) ∧ W.cell? ⟨b, off + j * 3 + 2, none⟩ = some (.bool ps[j].d.gone) ∧ DkAt W ps[j].a ps[j].b ps[j].d := by
  obtain ⟨b, off, rfl, hlt, hc⟩ := h.1 (by omega)
  exact ⟨b, off, rfl, hlt, hc j hj 0 _ (by decide) rfl, hc j hj 1 _ (by decide) rfl, hc j hj 2 _ (by decide) rfl, h.2 _ (List.getElem_mem hj)⟩
theorem ROwn.at_ {W : World} {base n c : Nat} {A : Option Addr} {ps : List RD} (h : ROwn W base (.slice A n c) ps) : RAt W A ps := by
  obtain ⟨A', c', e, hl⟩ := own_lies h.1
  cases e
  refine ⟨fun h0 => ?_, fun p hp => (h.2.each p hp).1.at_⟩
  obtain ⟨b, off, e, hlt, hc⟩ := hl (by rw [trios_len]; omega)
  exact ⟨b, off, e, hlt, fun j hj k v hk hv => hc (j * 3 + k) v ((trios_at ps j k hj hk).trans hv)⟩
/-- A set of disks is returned, in memory of the call's own. -/
def RPost (R : List Dk) (w : World) (r : Ending) (w' : World) : Prop :=
  ∃ (ps : List RD) (A : Option Addr) (c : Nat), r = .returned (.agg #[.slice A ps.length c]) ∧ dks ps = R ∧ ROwn w' w.heap.size (.slice A ps.length c) ps ∧ Below w.heap.size w w'
def RPost2 (R : List Dk) (b : Bool) (w : World) (r : Ending) (w' : World) : Prop :=
  ∃ (ps : List RD) (A : Option Addr) (c : Nat), r = .returned (.tuple #[.agg #[.slice A ps.length c], .bool b]) ∧ dks ps = R ∧ ROwn w' w.heap.size (.slice A ps.length c) ps ∧ Below w.heap.size w w'

def dz : List Value := [.slice none 0 0, .slice none 0 0, .bool false]
def dzeros (n : Nat) : List Value := (List.replicate n dz).flatten
theorem dzeros_succ (n : Nat) : dzeros (n + 1) = dz ++ dzeros n := by simp [dzeros, List.replicate_succ]
theorem dzeros_len (n : Nat) : (dzeros n).length = n * 3 := by
  induction n with
  | zero => rfl
  | succ n ih =>
    rw [dzeros_succ, List.length_append, ih]
    show 3 + _ = _
    omega
theorem dzeros_at : ∀ (n k i : Nat), k < n → i < 3 → (dzeros n)[k * 3 + i]? = dz[i]?
  | n + 1, 0, i, _, hi => by
    rw [dzeros_succ, List.getElem?_append_left (by show 0 * 3 + i < 3; omega)]
    simp
  | n + 1, k + 1, i, h, hi => by
    rw [dzeros_succ, List.getElem?_append_right (by show 3 ≤ _; omega), show (k + 1) * 3 + i - dz.length = k * 3 + i by show (k + 1) * 3 + i - 3 = _; omega]
    exact dzeros_at n k i (by omega) hi
theorem made_disks (n : Nat) : (madeCells (Value.cells (.agg #[.slice none 0 0, .slice none 0 0, .bool false])) (n * 3)).toList = dzeros n := by
  apply List.ext_getElem?
  intro i
  by_cases h : i < n * 3
  · have hl : i < (madeCells (Value.cells (.agg #[.slice none 0 0, .slice none 0 0, .bool false])) (n * 3)).toList.length := by simp [madeCells]; exact h
    rw [List.getElem?_eq_getElem hl]
    obtain ⟨q, hq⟩ : ∃ q, q = i / 3 := ⟨_, rfl⟩
    have hz := fun j (hj : j < 3) => dzeros_at n q j (by omega) hj
    rcases (show i = q * 3 + 0 ∨ i = q * 3 + 1 ∨ i = q * 3 + 2 by omega) with rfl | rfl | rfl
    · rw [hz 0 (by omega)]
      simp [madeCells, Value.cells, dz, show (q * 3) % 3 = 0 by omega]
    · rw [hz 1 (by omega)]
      simp [madeCells, Value.cells, dz, show (q * 3 + 1) % 3 = 1 by omega]
    · rw [hz 2 (by omega)]
      simp [madeCells, Value.cells, dz, show (q * 3 + 2) % 3 = 2 by omega]
  · rw [List.getElem?_eq_none (by simp [madeCells]; omega), List.getElem?_eq_none (by rw [dzeros_len]; omega)]
theorem set_three (a b c : Value) (L R : List Value) (x y z : Value) (k : Nat) (hl : L.length = k) : (((L ++ a :: b :: c :: R).set k x).set (k + 1) y).set (k + 2) z = L ++ x :: y :: z :: R := by
  subst hl
  simp [List.set_append_right]
end Go.Proofs.Ytndckncoipkhaaa

namespace Go.Proofs.Ytndckncoipkhaaa
open Go.RowKit

/-- What a set of disks weighs. -/
def wtR : List Dk → Nat
  | [] => 0
  | d :: R => d.cells.length + d.waits.length + wtR R
theorem wtR_app (a b : List Dk) : wtR (a ++ b) = wtR a + wtR b := by
  induction a with
  | nil => simp [wtR]
  | cons d a ih =>
    show d.cells.length + d.waits.length + wtR (a ++ b) = d.cells.length + d.waits.length + wtR a + wtR b
    omega
theorem wtR_mem {R : List Dk} {d : Dk} (h : d ∈ R) : d.cells.length + d.waits.length ≤ wtR R := by
  induction R with
  | nil => cases h
  | cons x R ih =>
    unfold wtR
    rcases List.mem_cons.1 h with rfl | h
    · omega
    · have := ih h
      omega
theorem dks_take (ps : List RD) (k : Nat) : dks (ps.take k) = (dks ps).take k := by simp [dks]
theorem wtR_take {ps : List RD} {k : Nat} (h : k < ps.length) : wtR (dks (ps.take (k + 1))) = wtR (dks (ps.take k)) + (ps[k].d.cells.length + ps[k].d.waits.length) := by
  rw [List.take_succ_eq_append_getElem h]
  show wtR (List.map RD.d (_ ++ [_])) = wtR (List.map RD.d _) + _
  rw [List.map_append, wtR_app]
  simp [wtR]
/-- A disk of a size that a machine can hold. -/
structure Fits (d : Dk) : Prop where
  cells : d.cells.length ≤ maxLen
  texts : ∀ s ∈ d.cells, s.size ≤ maxLen
  waits : d.waits.length ≤ maxLen
  wtexts : ∀ x ∈ d.waits, x.text.size ≤ maxLen
theorem Fits.bulk {d : Dk} (h : Fits d) (h1 : d.cells.length ≤ 1048576) (h2 : d.waits.length ≤ 1048576) : Bulk d := ⟨h1, h2, h.texts, h.wtexts⟩

set_option maxRecDepth 100000 in
set_option maxHeartbeats 2000000 in
theorem sz_disks (A : Option Addr) (cap : Nat) (ps : List RD) (L : Int) (w : World) (hL0 : 0 ≤ L) (hL : L ≤ 1048576) (hn : ps.length ≤ maxLen) (hf : ∀ p ∈ ps, Fits p.d) (hA : RAt w A ps) :
    Calls Try.prog 43 #[.slice A ps.length cap, .int .i64 L] w (SzPost (ps.length + wtR (dks ps)) L w) := by
  unfold maxLen at hn
  by_cases h0 : L < (ps.length : Int)
  · have h0' : L - (ps.length : Int) < 0 := by omega
    go_enter Try.func43, Try.ntmps43
    go_wp2
    go_ret
    exact ⟨_, rfl, Below.refl _ _, by intro h; omega⟩
  · have h0' : ¬ L - (ps.length : Int) < 0 := by omega
    go_enter Try.func43, Try.ntmps43
    go_wp2
    go_loopw [1, 5] (fun z i wr => ∃ (k : Nat) (u : Int), k ≤ ps.length ∧ i = .int .i64 k ∧ z = .int .i64 u ∧ 0 ≤ u ∧ ((ps.length + wtR (dks (ps.take k)) : Nat) : Int) ≤ L - u ∧ Below w.heap.size w wr) (fun _ i _ => ps.length - (intOf i).toNat)
    case atStart => exact ⟨0, L - ps.length, Nat.zero_le _, rfl, rfl, by omega, (by simp [dks, wtR]; omega), Below.refl _ _⟩
    case round =>
      obtain ⟨k, u, hk, rfl, rfl, hu, hle, hb⟩ := hrel
      by_cases hlt : k < ps.length
      · obtain ⟨b, off, rfl, hlb, z0, z1, z2, hd⟩ := (hA.below hb).cell k hlt
        have hfp := hf ps[k] (List.getElem_mem hlt)
        have hw := wtR_take hlt
        obtain ⟨P, hP⟩ : ∃ P, P = ps[k] := ⟨_, rfl⟩
        rw [← hP] at z0 z1 z2 hd hfp hw
        have hS := sz_disk P.a P.b P.c P.e P.d u wr hu (by omega) hfp.cells hfp.texts hfp.waits hfp.wtexts hd
        have HW := Lib.hid hw
        have HK := Lib.hid hlt
        clear hw hfp hd hP hA
        go_wp2_with (go_at_call 83; refine hS.mono ?_; rintro r w2 ⟨y, rfl, hb2, hy⟩; refine Hid.out ?_)
        refine Lib.hid ?_
        have hb3 := bel_then hb hb2
        by_cases hyy : y < 0
        · go_wp2_with fail
          go_ret
          exact ⟨_, rfl, hb3, by intro h; omega⟩
        · have hz := hy (by omega)
          go_wp2_with fail
          go_roundw
          case rel => exact ⟨k + 1, y, by omega, by go_num, rfl, by omega, by rw [HW.out]; omega, hb3⟩
          case measure => simp [intOf]; omega
      · have hke : k = ps.length := by omega
        subst hke
        rw [List.take_length] at hle
        go_wp2_with fail
        go_ret
        exact ⟨_, rfl, hb, fun _ => by omega⟩

/-- The box of a set of disks. -/
def B1 (W : World) (g : Nat) (t : TypeId) (x : Value) : Prop := W.heap[g]? = some (.cells #[x] t (0, 0))
theorem B1.new (w : World) (t : TypeId) (x : Value) : B1 (w.alloc (.cells #[x] t)) w.heap.size t x := heap_alloc_new w _
theorem B1.lt {W : World} {g : Nat} {t : TypeId} {x : Value} (h : B1 W g t x) : g < W.heap.size := (Array.getElem?_eq_some_iff.1 h).1
theorem B1.below {W W' : World} {g : Nat} {t : TypeId} {x : Value} (h : B1 W g t x) (hb : Below W.heap.size W W') : B1 W' g t x := (hb.block g h.lt).trans h
theorem B1.only {W W' : World} {lo hi g : Nat} {t : TypeId} {x : Value} (h : B1 W g t x) (hg : Only lo hi W W') (hn : ¬ (lo ≤ g ∧ g < hi)) : B1 W' g t x := (hg.block g h.lt hn).trans h
theorem B1.cells {W : World} {g : Nat} {t : TypeId} {x : Value} (h : B1 W g t x) : W.cell? ⟨g, 0, none⟩ = some x ∧ W.frozen? ⟨g, 0, none⟩ = false := by
  unfold B1 at h
  simp [World.cell?, World.frozen?, h]

set_option maxHeartbeats 1000000 in
theorem sz_raid (A : Option Addr) (cap : Nat) (ps : List RD) (L : Int) (w : World) (hL0 : 0 ≤ L) (hL : L ≤ 1048576) (hn : ps.length ≤ maxLen) (hf : ∀ p ∈ ps, Fits p.d) (hA : RAt w A ps) :
    Calls Try.prog 16 #[.agg #[.slice A ps.length cap], .int .i64 L] w (SzPost (ps.length + wtR (dks ps)) L w) := by
  have hS := fun W hW => sz_disks A cap ps L W hL0 hL hn hf (hA.below (W' := W) hW)
  clear hn hf hA
  go_enter Try.func16, Try.ntmps16
  go_wp2_with (go_at_call 43; refine (hS _ (bel_new (Below.refl _ _) _)).mono ?_; rintro r w2 ⟨z, rfl, hb2, hz⟩; refine Hid.out ?_)
  refine Lib.hid ?_
  have B2 := bel_then (bel_new (Below.refl _ _) _) hb2
  by_cases hzz : z < 0
  · go_wp2_with fail
    go_ret
    exact ⟨_, rfl, B2, by intro h; omega⟩
  · go_wp2_with fail
    go_ret
    exact ⟨_, rfl, B2, hz⟩

theorem Try.info60 : (Try.prog.info? 60).map (fun i => (i.zero, i.size, i.bytes)) = some (some (.agg #[.slice none 0 0, .slice none 0 0, .bool false]), 3, 56) := by kernel_rfl

theorem own_set3 {W : World} {base g n cap k : Nat} {ps : List RD} {R : List Value} (h : W.ownsRow base 60 3 (.slice (some ⟨g, 0, none⟩) n cap) n (trios ps ++ dz ++ R)) (hk : ps.length = k) (p : RD) :
    (((W.setCell ⟨g, k * 3, none⟩ (.slice p.a p.d.cells.length p.c)).setCell ⟨g, k * 3 + 1, none⟩ (.slice p.b p.d.waits.length p.e)).setCell ⟨g, k * 3 + 2, none⟩ (.bool p.d.gone)).ownsRow base 60 3 (.slice (some ⟨g, 0, none⟩) n cap) n (trios (ps ++ [p]) ++ R) := by
  have h3 := ((((h.stored (k * 3) (.slice p.a p.d.cells.length p.c)).1).stored (k * 3 + 1) (.slice p.b p.d.waits.length p.e)).1.stored (k * 3 + 2) (.bool p.d.gone)).1
  have hl : (trios ps).length = k * 3 := by rw [trios_len, hk]
  rw [show trios ps ++ dz ++ R = trios ps ++ (.slice none 0 0) :: (.slice none 0 0) :: (.bool false) :: R by simp [dz], set_three _ _ _ _ R _ _ _ (k * 3) hl] at h3
  rw [trios_app]
  simpa [trios, RD.trio] using h3
theorem own_cells3 {W : World} {base g n cap k : Nat} {ps : List RD} {R : List Value} (h : W.ownsRow base 60 3 (.slice (some ⟨g, 0, none⟩) n cap) n (trios ps ++ dz ++ R)) (hk : ps.length = k) (hn : k < n) :
    W.cell? ⟨g, k * 3, none⟩ = some (.slice none 0 0) ∧ W.cell? ⟨g, k * 3 + 1, none⟩ = some (.slice none 0 0) ∧ W.cell? ⟨g, k * 3 + 2, none⟩ = some (.bool false) := by
  have hl : (trios ps).length = k * 3 := by rw [trios_len, hk]
  have g0 : ∀ i v, i < 3 → dz[i]? = some v → W.cell? ⟨g, k * 3 + i, none⟩ = some v := fun i v hi hv => by
    rw [h.cellAt (k * 3 + i) (by omega), List.append_assoc, List.getElem?_append_right (by omega), hl, show k * 3 + i - k * 3 = i by omega, List.getElem?_append_left (by show i < 3; omega), hv]
  exact ⟨g0 0 _ (by decide) rfl, g0 1 _ (by decide) rfl, g0 2 _ (by decide) rfl⟩
theorem grown_set (W : World) (a : Addr) (u : Value) : W.grownBy (W.setCell a u) (some a.block) :=
  ⟨rfl, rfl, rfl, by simp [World.setCell], fun k _ hk => Below.heap_setCell _ _ _ k (fun e => hk (by rw [e]))⟩
theorem dks_more {ps : List RD} {k : Nat} (h : k < ps.length) : (dks ps).take (k + 1) = (dks ps).take k ++ [ps[k].d] := by
  rw [List.take_succ_eq_append_getElem (by rw [dks_len]; exact h)]
  simp [dks]

/-- A row of disks is returned. -/
def RowPost (R : List Dk) (w : World) (r : Ending) (w' : World) : Prop :=
  ∃ (ps : List RD) (A : Option Addr) (c : Nat), r = .returned (.slice A ps.length c) ∧ dks ps = R ∧ ROwn w' w.heap.size (.slice A ps.length c) ps ∧ Below w.heap.size w w'

set_option maxRecDepth 100000 in
set_option maxHeartbeats 4000000 in
theorem to_disks (A : Option Addr) (cap : Nat) (ps : List RD) (w : World) (hn : ps.length ≤ 1048576) (hf : ∀ p ∈ ps, Bulk p.d) (hA : RAt w A ps) :
    Calls Try.prog 45 #[.slice A ps.length cap] w (RowPost (dks ps) w) := by
  obtain ⟨i0, hi, hz0, hz1, hz2⟩ := info_parts Try.info60
  go_enter Try.func45, Try.ntmps45
  go_wp2_with (refine wpList_make_full _ rfl _ _ 22 rfl w.heap.size 60 i0 (.agg #[.slice none 0 0, .slice none 0 0, .bool false]) 3 Try.underlying22 hi hz0 hz1 _ _ _ _ ps.length rfl rfl rfl rfl (by rw [hz2]; omega) (by unfold maxLen; omega) (Nat.le_refl _) ?_; intro w1 hown hgrow; rw [made_disks] at hown)
  have hb1 : Below w.heap.size w w1 := (Below.refl _ _).grown hgrow (Nat.le_refl _) (fun k e => by cases e)
  have hg1 : w.heap.size < w1.heap.size := (hown.lt w.heap.size rfl).2
  clear hgrow
  go_loopw [4] (fun i wr => ∃ (k : Nat) (qs : List RD), k ≤ ps.length ∧ i = .int .i64 k ∧ qs.length = k ∧ dks qs = (dks ps).take k ∧ wr.ownsRow w.heap.size 60 3 (.slice (some ⟨w.heap.size, 0, none⟩) ps.length ps.length) ps.length (trios qs ++ dzeros (ps.length - k)) ∧ RIn wr w.heap.size wr.heap.size (some w.heap.size) qs ∧ Below w.heap.size w wr) (fun i _ => ps.length - (intOf i).toNat)
  case atStart => exact ⟨0, [], Nat.zero_le _, rfl, rfl, rfl, hown, RIn.nil _ _ _ _, hb1⟩
  case round =>
    obtain ⟨k, qs, hk, rfl, hql, hqd, ho, hR, hb⟩ := hrel
    clear hown hb1 hg1
    have HQ := Lib.hid hqd
    have HL := Lib.hid hql
    clear hqd hql
    by_cases hlt : k < ps.length
    · obtain ⟨b, off, rfl, hlb, z0, z1, z2, hd⟩ := (hA.below hb).cell k hlt
      have hfp := hf ps[k] (List.getElem_mem hlt)
      have hmore := dks_more hlt
      obtain ⟨P, hP⟩ : ∃ P, P = ps[k] := ⟨_, rfl⟩
      rw [← hP] at z0 z1 z2 hd hfp hmore
      obtain ⟨m, hm⟩ : ∃ m, ps.length - k = m + 1 := ⟨ps.length - k - 1, by omega⟩
      have hm1 : ps.length - (k + 1) = m := by omega
      rw [hm, dzeros_succ, ← List.append_assoc] at ho
      have hT := to_disk P.a P.b P.c P.e P.d wr hfp.cells hfp.waits hd
      have hlt0 := (ho.lt w.heap.size rfl).2
      have HM := Lib.hid hm1
      have HMO := Lib.hid hmore
      clear hm hm1 hmore hfp hd hP hA
      go_wp2_with (go_at_call 85; refine hT.mono ?_; rintro r w2 ⟨v, rfl, hv, hb2⟩; refine Hid.out ?_)
      refine Lib.hid ?_
      obtain ⟨A', c', B', e', rfl, _⟩ := hv.at_
      obtain ⟨q, hq⟩ : ∃ q : RD, q = ⟨A', c', B', e', P.d, wr.heap.size, w2.heap.size⟩ := ⟨_, rfl⟩
      have hqin : DkIn w2 q.l q.h q.val q.d := by rw [hq]; exact hv.in_
      have ho2 := own_bel ho hb2
      obtain ⟨y0, y1, y2⟩ := own_cells3 ho2 HL.out hlt
      have f0 := ho2.frozenAt (k * 3)
      have f1 := ho2.frozenAt (k * 3 + 1)
      have f2 := ho2.frozenAt (k * 3 + 2)
      have hset := own_set3 ho2 HL.out q
      have hR2 := (hR.below hb2).snoc (p := q) (top' := w2.heap.size) hqin (by rw [hq]; exact hb.size) (by rw [hq]; exact Nat.le_refl _) (by rw [hq]; exact hb2.size) (by rw [hq]; exact Nat.le_refl _) (fun k e => by cases e; rw [hq]; show ¬ (wr.heap.size ≤ w.heap.size ∧ _); omega)
      have hR3 := ((hR2.row (grown_set w2 ⟨w.heap.size, k * 3, none⟩ (.slice q.a q.d.cells.length q.c))).row (grown_set _ ⟨w.heap.size, k * 3 + 1, none⟩ (.slice q.b q.d.waits.length q.e))).row (grown_set _ ⟨w.heap.size, k * 3 + 2, none⟩ (.bool q.d.gone))
      have BB := (((bel_then hb hb2).setCell (p := ⟨w.heap.size, k * 3, none⟩) (Nat.le_refl _) (.slice q.a q.d.cells.length q.c)).setCell (p := ⟨w.heap.size, k * 3 + 1, none⟩) (Nat.le_refl _) (.slice q.b q.d.waits.length q.e)).setCell (p := ⟨w.heap.size, k * 3 + 2, none⟩) (Nat.le_refl _) (.bool q.d.gone)
      have HD : Hid (dks (qs ++ [q]) = (dks ps).take (k + 1)) := Lib.hid (by rw [HMO.out, ← HQ.out, hq]; simp [dks])
      have HLn : Hid ((qs ++ [q]).length = k + 1) := Lib.hid (by simp [HL.out])
      have e1 : q.a = A' ∧ q.c = c' ∧ q.b = B' ∧ q.e = e' ∧ q.d = P.d := by rw [hq]; exact ⟨rfl, rfl, rfl, rfl, rfl⟩
      simp only [e1.1, e1.2.1, e1.2.2.1, e1.2.2.2.1, e1.2.2.2.2] at hset hR3 BB
      have HS := Lib.hid hset
      have HR3 := Lib.hid hR3
      have HBB := Lib.hid BB
      clear hT hb2 hv hq hqin ho ho2 hset hR2 hR3 BB e1 hR
      go_wp2_with fail
      go_roundw
      case rel => exact ⟨k + 1, qs ++ [q], by omega, by go_num, HLn.out, HD.out, by rw [HM.out]; exact HS.out, by simpa using HR3.out, HBB.out⟩
      case measure => simp [intOf]; omega
    · have hke : k = ps.length := by omega
      subst hke
      rw [Nat.sub_self, show dzeros 0 = [] from rfl, List.append_nil, ← HL.out] at ho
      have HO := Lib.hid ho
      go_wp2_with fail
      go_ret
      refine ⟨qs, some ⟨w.heap.size, 0, none⟩, ps.length, (by rw [HL.out]; rfl), ?_, ⟨by have := HO.out; rwa [HL.out] at this ⊢, hR⟩, hb⟩
      rw [HQ.out, List.take_of_length_le (by rw [dks_len]; exact Nat.le_refl _)]
end Go.Proofs.Ytndckncoipkhaaa

namespace Go.Proofs.Ytndckncoipkhaaa
open Go.RowKit

theorem ROwn.set {W : World} {base : Nat} {u : Value} {ps : List RD} (h : ROwn W base u ps) {p : Addr} (hp : p.block < base) (x : Value) : ROwn (W.setCell p x) base u ps :=
  ⟨own_set h.1 hp x, (h.2.onlyOut (lo := p.block) (hi := p.block + 1) (Only.of_grown (grown_set W p x) (fun k e => by cases e; omega)) (by omega)).top (by simp [World.setCell])⟩

set_option maxRecDepth 100000 in
set_option maxHeartbeats 2000000 in
theorem to_raid (A : Option Addr) (cap : Nat) (ps : List RD) (w : World) (hn : ps.length ≤ 1048576) (hf : ∀ p ∈ ps, Bulk p.d) (hA : RAt w A ps) :
    Calls Try.prog 18 #[.agg #[.slice A ps.length cap]] w (RPost (dks ps) w) := by
  have hT := fun W hW => to_disks A cap ps W hn hf (hA.below (W' := W) hW)
  clear hn hf hA
  go_enter Try.func18, Try.ntmps18
  go_wp2_with (go_at_call 45; refine (hT _ (bel_new (bel_new (bel_new (Below.refl _ _) _) _) _)).mono ?_; rintro r w2 ⟨qs, A2, c2, rfl, hq, ho, hb2⟩; have BB := bel_then (bel_new (bel_new (bel_new (Below.refl _ _) _) _) _) hb2; obtain ⟨hc, hf⟩ := bcell hb2; have s2 : w.heap.size + 1 + 1 + 1 ≤ w2.heap.size := (by have := hb2.size; simpa using this); have q0 : w.heap.size < w2.heap.size := (by omega); have q1 : w.heap.size + 1 < w2.heap.size := (by omega); have q2 : w.heap.size + 1 + 1 < w2.heap.size := (by omega))
  simp only [World.size_alloc] at ho
  refine bodyPost_ret (v := .agg #[.slice A2 qs.length c2]) (by simp [results, Try.f18, go_sem, *]) rfl ⟨qs, A2, c2, rfl, hq, ((ho.set (p := ⟨w.heap.size + 1 + 1, 0, none⟩) (Nat.lt_succ_self _) _).set (p := ⟨w.heap.size + 1, 0, none⟩) (by show w.heap.size + 1 < _; omega) _).base (by omega), ?_⟩
  exact (BB.setCell (p := ⟨w.heap.size + 1 + 1, 0, none⟩) (by show w.heap.size ≤ w.heap.size + 1 + 1; omega) _).setCell (p := ⟨w.heap.size + 1, 0, none⟩) (by show w.heap.size ≤ w.heap.size + 1; omega) _

/-- The cells of two disks, kept. -/
def TwoD (w : World) (g x h y : Nat) (P Q : RD) (W : World) : Prop :=
  W.cell? ⟨g, x, none⟩ = some (.slice P.a P.d.cells.length P.c) ∧ W.cell? ⟨g, x + 1, none⟩ = some (.slice P.b P.d.waits.length P.e) ∧ W.cell? ⟨g, x + 2, none⟩ = some (.bool P.d.gone) ∧ W.cell? ⟨h, y, none⟩ = some (.slice Q.a P.d.cells.length Q.c) ∧ W.cell? ⟨h, y + 1, none⟩ = some (.slice Q.b P.d.waits.length Q.e) ∧ W.cell? ⟨h, y + 2, none⟩ = some (.bool P.d.gone) ∧ g < W.heap.size ∧ h < W.heap.size ∧ Below w.heap.size w W
theorem TwoD.next {w W W' : World} {g x h y : Nat} {P Q : RD} (k : TwoD w g x h y P Q W) (hb : Below W.heap.size W W') : TwoD w g x h y P Q W' := by
  obtain ⟨a0, a1, a2, b0, b1, b2, hg, hh, hw⟩ := k
  exact ⟨(hb.cell (p := ⟨g, x, none⟩) hg).trans a0, (hb.cell (p := ⟨g, x + 1, none⟩) hg).trans a1, (hb.cell (p := ⟨g, x + 2, none⟩) hg).trans a2, (hb.cell (p := ⟨h, y, none⟩) hh).trans b0, (hb.cell (p := ⟨h, y + 1, none⟩) hh).trans b1, (hb.cell (p := ⟨h, y + 2, none⟩) hh).trans b2, Nat.lt_of_lt_of_le hg hb.size, Nat.lt_of_lt_of_le hh hb.size, bel_then hw hb⟩

set_option maxRecDepth 100000 in
set_option maxHeartbeats 4000000 in
theorem eq_disks (A B : Option Addr) (ca cb : Nat) (ps qs : List RD) (w : World) (hd : dks ps = dks qs) (hn : ps.length ≤ 1048576) (hf : ∀ p ∈ ps, Bulk p.d) (hA : RAt w A ps) (hB : RAt w B qs) :
    Calls Try.prog 40 #[.slice A ps.length ca, .slice B qs.length cb] w fun e w' => e = .returned (.bool true) ∧ Below w.heap.size w w' := by
  have hql : qs.length = ps.length := by rw [← dks_len, ← dks_len, hd]
  have hq0 : ((ps.length : Int) != (ps.length : Int)) = false := by simp
  rw [hql]
  have HQL := Lib.hid hql
  have HD := Lib.hid hd
  clear hql hd
  go_enter Try.func40, Try.ntmps40
  go_wp2
  go_loopw [5] (fun i wr => ∃ k : Nat, k ≤ ps.length ∧ i = .int .i64 k ∧ Below w.heap.size w wr) (fun i _ => ps.length - (intOf i).toNat)
  case atStart => exact ⟨0, Nat.zero_le _, rfl, Below.refl _ _⟩
  case round =>
    obtain ⟨k, hk, rfl, hb⟩ := hrel
    by_cases hlt : k < ps.length
    · obtain ⟨b1, o1, rfl, hl1, y0, y1, y2, hd1⟩ := (hA.below hb).cell k hlt
      obtain ⟨b2, o2, rfl, hl2, z0, z1, z2, hd2⟩ := (hB.below hb).cell k (by rw [HQL.out]; exact hlt)
      have hfp := hf ps[k] (List.getElem_mem hlt)
      have hdk : (qs[k]'(by rw [HQL.out]; exact hlt)).d = ps[k].d := by
        have h1 : (dks ps)[k]? = some ps[k].d := by simp [dks, hlt]
        have h2 : (dks qs)[k]? = some (qs[k]'(by rw [HQL.out]; exact hlt)).d := by simp [dks, HQL.out, hlt]
        rw [HD.out] at h1
        rw [h1] at h2
        exact (Option.some.inj h2).symm
      obtain ⟨P, hP⟩ : ∃ P, P = ps[k] := ⟨_, rfl⟩
      obtain ⟨Q, hQ⟩ : ∃ Q, Q = qs[k]'(by rw [HQL.out]; exact hlt) := ⟨_, rfl⟩
      rw [← hP] at y0 y1 y2 hd1 hfp hdk
      rw [← hQ] at z0 z1 z2 hd2 hdk
      rw [hdk] at z0 z1 z2 hd2
      have K0 : TwoD wr b1 (o1 + k * 3) b2 (o2 + k * 3) P Q wr.drew := ⟨y0, y1, y2, z0, z1, z2, hl1, hl2, (Below.refl _ _).drew⟩
      have hE := eq_disk P.a P.b Q.a Q.b P.c P.e Q.c Q.e P.d wr.drew hfp.cells hfp.waits hd1 hd2
      clear hP hQ hdk hd1 hd2 hfp hA hB
      go_wp2_with fail
      go_region_held3 (fun W => W.cell? ⟨b1, o1 + k * 3, none⟩ = some (.slice P.a P.d.cells.length P.c) ∧ W.cell? ⟨b1, o1 + k * 3 + 1, none⟩ = some (.slice P.b P.d.waits.length P.e) ∧ W.cell? ⟨b1, o1 + k * 3 + 2, none⟩ = some (.bool P.d.gone) ∧ W.cell? ⟨b2, o2 + k * 3, none⟩ = some (.slice Q.a P.d.cells.length Q.c) ∧ W.cell? ⟨b2, o2 + k * 3 + 1, none⟩ = some (.slice Q.b P.d.waits.length Q.e) ∧ W.cell? ⟨b2, o2 + k * 3 + 2, none⟩ = some (.bool P.d.gone) ∧ b1 < W.heap.size ∧ b2 < W.heap.size ∧ Below wr.heap.size wr W)
        ((show TwoD wr b1 (o1 + k * 3) b2 (o2 + k * 3) P Q _; with_reducible (first | exact K0 | exact hk2)))
        (first | (go_at_call 78; refine hE.mono ?_; rintro r w2 ⟨rfl, hb2⟩; have hk2 := K0.next hb2))
      have W2 : Below wr.heap.size wr w2 := hk2.2.2.2.2.2.2.2.2
      go_wp2_with fail
      go_roundw
      case rel => exact ⟨k + 1, by omega, by go_num, bel_then hb W2⟩
      case measure => simp [intOf]; omega
    · have hke : k = ps.length := by omega
      subst hke
      go_wp2
      go_ret
      exact ⟨rfl, hb⟩
set_option maxHeartbeats 1000000 in
theorem eq_raid (A B : Option Addr) (ca cb : Nat) (ps qs : List RD) (w : World) (hd : dks ps = dks qs) (hn : ps.length ≤ 1048576) (hf : ∀ p ∈ ps, Bulk p.d) (hA : RAt w A ps) (hB : RAt w B qs) :
    Calls Try.prog 13 #[.agg #[.slice A ps.length ca], .agg #[.slice B qs.length cb]] w fun e w' => e = .returned (.bool true) ∧ Below w.heap.size w w' := by
  have BB := bel_new (bel_new (Below.refl w.heap.size w) (.cells #[.slice A ps.length ca] 24)) (.cells #[.slice B qs.length cb] 24)
  have hE := eq_disks A B ca cb ps qs _ hd hn hf (hA.below BB) (hB.below BB)
  clear hn hf hA hB hd
  go_enter Try.func13, Try.ntmps13
  go_wp2_with (go_at_call 40; refine hE.mono ?_; rintro r w2 ⟨rfl, hb2⟩)
  go_ret
  exact ⟨rfl, bel_then BB hb2⟩
end Go.Proofs.Ytndckncoipkhaaa

namespace Go.Proofs.Ytndckncoipkhaaa
open Go.RowKit

/-- How many marks a set of disks takes. -/
def mkR : List Dk → Nat
  | [] => 0
  | d :: R => d.cells.length + 2 * d.waits.length + 1 + mkR R
theorem mkR_app (a b : List Dk) : mkR (a ++ b) = mkR a + mkR b := by
  induction a with
  | nil => simp [mkR]
  | cons d a ih =>
    show d.cells.length + 2 * d.waits.length + 1 + mkR (a ++ b) = d.cells.length + 2 * d.waits.length + 1 + mkR a + mkR b
    omega
theorem mkR_ge (R : List Dk) : R.length ≤ mkR R := by
  induction R with
  | nil => simp
  | cons d R ih =>
    unfold mkR
    rw [List.length_cons]
    omega
theorem mkR_le (R : List Dk) : mkR R ≤ 2 * wtR R + R.length := by
  induction R with
  | nil => simp [mkR, wtR]
  | cons d R ih =>
    unfold mkR wtR
    rw [List.length_cons]
    omega
theorem mkR_take {ps : List RD} {k : Nat} (h : k < ps.length) : mkR (dks (ps.take (k + 1))) = mkR (dks (ps.take k)) + (ps[k].d.cells.length + 2 * ps[k].d.waits.length + 1) := by
  rw [List.take_succ_eq_append_getElem h]
  show mkR (List.map RD.d (_ ++ [_])) = mkR (List.map RD.d _) + _
  rw [List.map_append, mkR_app]
  simp [mkR]
theorem mkR_takes (ps : List RD) (k : Nat) : mkR (dks (ps.take k)) ≤ mkR (dks ps) := by
  have h : dks ps = dks (ps.take k) ++ dks (ps.drop k) := by
    unfold dks
    rw [← List.map_append, List.take_append_drop]
  rw [h, mkR_app]
  omega
def goneM (k : Nat) (d : Dk) : Bool := (((k + d.cells.length + 2 * d.waits.length) % 3 : Nat) : Int) == 0
/-- A disk with its marks, from k on. -/
def markK (k : Nat) (d : Dk) : Dk := ⟨marks k d.cells.length, marksW (k + d.cells.length) d.waits.length, goneM k d⟩
def markRD (k : Nat) (p : RD) : RD := { p with d := markK k p.d }
def marksR : Nat → List RD → List RD
  | _, [] => []
  | k, p :: ps => markRD k p :: marksR (k + (p.d.cells.length + 2 * p.d.waits.length + 1)) ps
theorem marksR_len : ∀ (k : Nat) (ps : List RD), (marksR k ps).length = ps.length
  | _, [] => rfl
  | k, p :: ps => by
    show (marksR _ ps).length + 1 = _
    rw [marksR_len]
    rfl
theorem marksR_at : ∀ (k : Nat) (ps : List RD) (j : Nat) (h : j < ps.length), (marksR k ps)[j]'(by rw [marksR_len]; exact h) = markRD (k + mkR (dks (ps.take j))) ps[j]
  | k, p :: ps, 0, _ => by simp [marksR, dks, mkR]
  | k, p :: ps, j + 1, h => by
    have hj : j < ps.length := by simpa using h
    have ih := marksR_at (k + (p.d.cells.length + 2 * p.d.waits.length + 1)) ps j hj
    show (marksR _ ps)[j]'_ = markRD (k + mkR (p.d :: dks (ps.take j))) ps[j]
    rw [ih]
    congr 1
    show _ = k + (p.d.cells.length + 2 * p.d.waits.length + 1 + mkR (dks (ps.take j)))
    omega
theorem markK_len (k : Nat) (d : Dk) : (markK k d).cells.length = d.cells.length ∧ (markK k d).waits.length = d.waits.length := by simp [markK, marks_len, marksW_len]
def mixR (ps : List RD) (j : Nat) : List RD := (marksR 1 ps).take j ++ ps.drop j
theorem mixR_len (ps : List RD) {j : Nat} (h : j ≤ ps.length) : (mixR ps j).length = ps.length := by
  simp [mixR, marksR_len]
  omega
theorem mixR_zero (ps : List RD) : mixR ps 0 = ps := by simp [mixR]
theorem mixR_all (ps : List RD) : mixR ps ps.length = marksR 1 ps := by
  unfold mixR
  rw [List.drop_length, List.append_nil, List.take_of_length_le (by rw [marksR_len]; exact Nat.le_refl _)]
theorem mixR_at {ps : List RD} {j : Nat} (h : j < ps.length) : (mixR ps j)[j]'(by rw [mixR_len ps (by omega)]; exact h) = ps[j] := by
  unfold mixR
  rw [List.getElem_append_right (by simp [marksR_len]; omega)]
  simp [marksR_len, Nat.min_eq_left (Nat.le_of_lt h)]
theorem mixR_next {ps : List RD} {j : Nat} (h : j < ps.length) : (mixR ps j).set j (markRD (1 + mkR (dks (ps.take j))) ps[j]) = mixR ps (j + 1) := by
  unfold mixR
  have hl : ((marksR 1 ps).take j).length = j := by simp [marksR_len]; omega
  rw [List.set_append_right _ _ (by omega), hl, Nat.sub_self, List.drop_eq_getElem_cons h, List.set_cons_zero, List.take_succ_eq_append_getElem (by rw [marksR_len]; exact h), marksR_at 1 ps j h, List.append_assoc]
  rfl
theorem trios_gone : ∀ (ps : List RD) (j : Nat) (h : j < ps.length) (d : Dk), d.cells.length = ps[j].d.cells.length → d.waits.length = ps[j].d.waits.length → (trios ps).set (j * 3 + 2) (.bool d.gone) = trios (ps.set j { ps[j] with d := d })
  | p :: ps, 0, _, d, h1, h2 => by
    simp only [List.getElem_cons_zero] at h1 h2
    simp [trios, RD.trio, h1, h2]
  | p :: ps, j + 1, h, d, h1, h2 => by
    have ih := trios_gone ps j (by simpa using h) d (by simpa using h1) (by simpa using h2)
    show (RD.trio p ++ trios ps).set _ _ = RD.trio p ++ trios (ps.set j _)
    rw [List.set_append_right _ _ (by show 3 ≤ _; omega), show (j + 1) * 3 + 2 - (RD.trio p).length = j * 3 + 2 by show (j + 1) * 3 + 2 - 3 = _; omega, ih]
    rfl

/-- .. below a block. -/
def RBox (W : World) (base top : Nat) (u : Value) (ps : List RD) : Prop := (W.ownsRow base 60 3 u ps.length (trios ps) ∧ ∀ k, u.ownBlock = some k → k < top) ∧ RIn W base top u.ownBlock ps
theorem ROwn.box {W : World} {base : Nat} {u : Value} {ps : List RD} (h : ROwn W base u ps) : RBox W base W.heap.size u ps := ⟨⟨h.1, fun k hk => (h.1.lt k hk).2⟩, h.2⟩
theorem RBox.below {W W' : World} {base top : Nat} {u : Value} {ps : List RD} (h : RBox W base top u ps) (hb : Below W.heap.size W W') : RBox W' base top u ps := ⟨⟨own_bel h.1.1 hb, h.1.2⟩, h.2.below hb⟩
theorem RBox.only {W W' : World} {lo hi base top : Nat} {u : Value} {ps : List RD} (h : RBox W base top u ps) (hg : Only lo hi W W') (hn : hi ≤ base ∨ top ≤ lo) : RBox W' base top u ps :=
  ⟨⟨own_only h.1.1 hg (fun k hk => by have := (h.1.1.lt k hk).1; have := h.1.2 k hk; omega), h.1.2⟩, h.2.onlyOut hg hn⟩
theorem RBox.at_ {W : World} {base top n c : Nat} {A : Option Addr} {ps : List RD} (h : RBox W base top (.slice A n c) ps) : RAt W A ps := by
  obtain ⟨A', c', e, hl⟩ := own_lies h.1.1
  cases e
  refine ⟨fun h0 => ?_, fun p hp => (h.2.each p hp).1.at_⟩
  obtain ⟨b, off, e, hlt, hc⟩ := hl (by rw [trios_len]; omega)
  exact ⟨b, off, e, hlt, fun j hj k v hk hv => hc (j * 3 + k) v ((trios_at ps j k hj hk).trans hv)⟩

theorem own_goneAt {W : World} {base n c : Nat} {A : Option Addr} {xs : List Value} (h : W.ownsRow base 60 3 (.slice A n c) n xs) (hn : 0 < n) : ∃ g, A = some ⟨g, 0, none⟩ ∧ g < W.heap.size ∧ base ≤ g := by
  rcases h.2 with ⟨e, h0⟩ | ⟨g, cap, cur, e, hb, _⟩
  · omega
  · cases e
    exact ⟨g, rfl, (h.lt g rfl).2, hb⟩
theorem tmod3 (K : Nat) : (K : Int).tmod 3 = ((K % 3 : Nat) : Int) := by
  rw [Int.tmod_eq_emod_of_nonneg (by omega)]
  rfl

theorem Only.wide {lo hi lo' hi' : Nat} {a w : World} (h : Only lo hi a w) (h1 : lo' ≤ lo) (h2 : hi ≤ hi') : Only lo' hi' a w :=
  ⟨h.os, h.tape, h.output, h.size, fun k hk hn => h.block k hk (fun e => hn ⟨by omega, by omega⟩)⟩
set_option maxRecDepth 100000 in
set_option maxHeartbeats 4000000 in
theorem mark_disks (base top : Nat) (A : Option Addr) (c : Nat) (ps : List RD) (w : World) (hsz : mkR (dks ps) ≤ 4000000) (htop : top ≤ w.heap.size) (h : RBox w base top (.slice A ps.length c) ps) :
    Calls Try.prog 41 #[.slice A ps.length c, .int .i64 1] w fun r w' => r = .returned (.int .i64 ((1 + mkR (dks ps) : Nat) : Int)) ∧ RBox w' base top (.slice A ps.length c) (marksR 1 ps) ∧ Only base top w w' := by
  go_enter Try.func41, Try.ntmps41
  go_wp2
  go_loopw [1, 5] (fun kv i wr => ∃ j : Nat, j ≤ ps.length ∧ i = .int .i64 j ∧ kv = .int .i64 ((1 + mkR (dks (ps.take j)) : Nat) : Int) ∧ RBox wr base top (.slice A ps.length c) (mixR ps j) ∧ Only base top w wr) (fun _ i _ => ps.length - (intOf i).toNat)
  case atStart => exact ⟨0, Nat.zero_le _, rfl, rfl, by rw [mixR_zero]; exact h, Only.of_below (Below.refl _ _)⟩
  case round =>
    obtain ⟨j, hj, rfl, rfl, hr, hon⟩ := hrel
    clear h
    have hsw := hon.size
    by_cases hlt : j < ps.length
    · have hml := mixR_len ps hj
      have hjm : j < (mixR ps j).length := by omega
      have hpe := mixR_at hlt
      have ho := hr.1.1
      rw [hml] at ho
      obtain ⟨g, rfl, hg1, hg2⟩ := own_goneAt ho (by omega)
      have hgt : g < top := hr.1.2 g rfl
      obtain ⟨b0, o0, e0, _, y0, y1, y2, _⟩ := hr.at_.cell j hjm
      cases e0
      rw [hpe] at y0 y1 y2
      obtain ⟨hdk, h1, h2, h3, h4⟩ := hr.2.each _ (List.getElem_mem hjm)
      rw [hpe] at hdk h1 h2 h3 h4
      have hgn := h4 g rfl
      have hK := mkR_take hlt
      have hKt := mkR_takes ps (j + 1)
      obtain ⟨K, hKe⟩ : ∃ K, K = 1 + mkR (dks (ps.take j)) := ⟨_, rfl⟩
      have hnext := mixR_next hlt
      rw [← hKe] at hnext ⊢
      have hput := fun W' d (hlen : d.cells.length = (mixR ps j)[j].d.cells.length ∧ d.waits.length = (mixR ps j)[j].d.waits.length) ho hp => hr.2.put (W' := W') hjm (d := d) hlen ho hp
      have htg := trios_gone (mixR ps j) j hjm
      obtain ⟨P, hP⟩ : ∃ P, P = ps[j] := ⟨_, rfl⟩
      rw [hpe] at hput htg
      rw [← hP] at y0 y1 y2 hdk h1 h2 h3 h4 hgn hK hnext hput htg
      obtain ⟨t, u1, u2, hv, ht, ⟨q1, t1⟩, ⟨q2, t2⟩⟩ := hdk
      simp only [RD.val, Value.agg.injEq, Array.mk.injEq, List.cons.injEq, and_true] at hv
      obtain ⟨rfl, rfl⟩ := hv
      have hne := own_ne q1 q2 (by rcases ht with rfl | rfl <;> decide)
      have hne2 := own_ne q2 q1 (by rcases ht with rfl | rfl <;> decide)
      have r1 : ∀ k, (Value.slice P.a P.d.cells.length P.c).ownBlock = some k → P.l ≤ k ∧ k < P.h := fun k hk => ⟨(q1.lt k hk).1, t1 k hk⟩
      have r2 : ∀ k, (Value.slice P.b P.d.waits.length P.e).ownBlock = some k → P.l ≤ k ∧ k < P.h := fun k hk => ⟨(q2.lt k hk).1, t2 k hk⟩
      have hS := mark_strs P.l t P.a P.c P.d.cells K wr (by omega) (by omega) q1
      have hT := fun W hW => mark_waits P.l P.b P.e P.d.waits (K + P.d.cells.length) W (by omega) (by omega) hW
      have c1 : ((K + P.d.cells.length : Nat) : Int) = (K : Int) + (P.d.cells.length : Int) := by omega
      simp only [c1] at hT
      obtain ⟨G, hG⟩ : ∃ G : Nat, G = K + P.d.cells.length + 2 * P.d.waits.length := ⟨_, rfl⟩
      have c2 : (K : Int) + (P.d.cells.length : Int) + 2 * (P.d.waits.length : Int) = (G : Int) := by omega
      have c3 := tmod3 G
      have hpl := mkR_ge (dks ps)
      rw [dks_len] at hpl
      have hjb : j ≤ 4000000 := by omega
      have hGb : G ≤ 9000000 := by omega
      clear hpl
      have hgo : goneM K P.d = (((G % 3 : Nat) : Int) == 0) := by unfold goneM; rw [hG]
      obtain ⟨gb, hgb⟩ : ∃ gb, gb = goneM K P.d := ⟨_, rfl⟩
      rw [← hgb] at hgo
      have HGO := Lib.hid hgo
      have c4 : ((G : Int) % 3 == 0) = gb := hgo.symm
      have HGB := Lib.hid hgb
      have HK1 := Lib.hid (show 1 + mkR (dks (ps.take (j + 1))) = G + 1 by omega)
      have HPUT := Lib.hid hput
      have HTG := Lib.hid htg
      have HN := Lib.hid hnext
      have HO := Lib.hid ho
      have HR := Lib.hid hr
      have HML := Lib.hid hml
      have HON := Lib.hid hon
      have HG := Lib.hid hG
      have HNE := Lib.hid hne
      have HNE2 := Lib.hid hne2
      have HT := Lib.hid ht
      have y2f := ho.frozenAt (j * 3 + 2)
      clear hput htg hnext ho hr hml hon hG hgo hgb hK hKt hKe hP hpe c1 hne hne2 ht hsz
      simp only [Nat.zero_add] at y0 y1 y2
      go_wp2_with (go_at_call 79; refine hS.mono ?_; rintro r w2 ⟨rfl, m1, g1⟩; refine Hid.out ?_)
      refine Lib.hid ?_
      have n2 := q2.kept g1 HNE.out
      have hc2 : ∀ o, w2.cell? ⟨g, o, none⟩ = wr.cell? ⟨g, o, none⟩ := fun o => World.cell?_of_block (g1.block g hg1 (fun e => hgn (r1 g e.symm)))
      have hf2 : ∀ o, w2.frozen? ⟨g, o, none⟩ = wr.frozen? ⟨g, o, none⟩ := fun o => World.frozen?_of_block (g1.block g hg1 (fun e => hgn (r1 g e.symm)))
      have z1 := (hc2 (j * 3 + 1)).trans y1
      have hT2 := hT w2 n2
      have HC2 := Lib.hid hc2
      have HF2 := Lib.hid hf2
      have Y2 := Lib.hid y2
      clear hS hT y0 y1 y2 hc2 hf2
      go_wp2_with (go_at_call 80; refine hT2.mono ?_; rintro r w3 ⟨rfl, m2, g2⟩; refine Hid.out ?_)
      refine Lib.hid ?_
      have hs2 : g < w2.heap.size := Nat.lt_of_lt_of_le hg1 g1.size
      have z2 : w3.cell? ⟨g, j * 3 + 2, none⟩ = some (.bool P.d.gone) := (World.cell?_of_block (g2.block g hs2 (fun e => hgn (r2 g e.symm)))).trans ((HC2.out _).trans Y2.out)
      have zf : w3.frozen? ⟨g, j * 3 + 2, none⟩ = false := (World.frozen?_of_block (g2.block g hs2 (fun e => hgn (r2 g e.symm)))).trans ((HF2.out _).trans y2f)
      have m1' := m1.kept g2 HNE2.out
      have on3 : Only P.l P.h wr w3 := (Only.of_grown g1 r1).trans (Only.of_grown g2 r2)
      have HA := Lib.hid m1'
      have HB := Lib.hid m2
      have HON3 := Lib.hid on3
      have hg3 : g < w3.heap.size := Nat.lt_of_lt_of_le hs2 g2.size
      clear hT2 z1 n2 m1 m1' m2 g1 g2 q1 q2 on3 y2f
      go_wp2_with fail
      have fin : RBox (w3.setCell ⟨g, j * 3 + 2, none⟩ (.bool gb)) base top (.slice (some ⟨g, 0, none⟩) ps.length c) (mixR ps (j + 1)) ∧ Only base top w (w3.setCell ⟨g, j * 3 + 2, none⟩ (.bool gb)) := by
        have hl := markK_len K P.d
        have hp : DkIn w3 P.l P.h ({ P with d := markK K P.d } : RD).val (markK K P.d) := by
          refine ⟨t, .slice P.a P.d.cells.length P.c, .slice P.b P.d.waits.length P.e, ?_, HT.out, ⟨?_, fun k hk => (r1 k hk).2⟩, ⟨?_, fun k hk => (r2 k hk).2⟩⟩
          · simp only [RD.val, hl.1, hl.2]
          · rw [hl.1]; exact HA.out
          · rw [hl.2]; exact HB.out
        have hin := (HPUT.out w3 (markK K P.d) hl HON3.out hp).row (W' := w3.setCell ⟨g, j * 3 + 2, none⟩ (.bool gb)) (grown_set w3 ⟨g, j * 3 + 2, none⟩ (.bool gb))
        have hrow := ((own_only HO.out HON3.out (fun k e => by cases e; exact hgn)).stored (j * 3 + 2) (.bool gb)).1
        have htr := HTG.out (markK K P.d) hl.1 hl.2
        have hgone : (markK K P.d).gone = gb := HGB.out.symm
        rw [hgone] at htr
        rw [htr] at hrow
        have hnx : (mixR ps j).set j ({ P with d := markK K P.d } : RD) = mixR ps (j + 1) := HN.out
        rw [hnx] at hrow hin
        refine ⟨⟨⟨by rw [mixR_len ps (by omega)]; exact hrow, fun k e => by cases e; exact hgt⟩, hin⟩, (HON.out.trans (HON3.out.wide h1 h3)).trans (Only.of_grown (grown_set w3 ⟨g, j * 3 + 2, none⟩ (.bool gb)) (fun k e => by cases e; exact ⟨hg2, hgt⟩))⟩
      go_roundw
      case rel => exact ⟨j + 1, by omega, by go_num, by rw [HK1.out]; go_num, fin.1, fin.2⟩
      case measure => simp [intOf]; omega
    · have hke : j = ps.length := by omega
      subst hke
      rw [List.take_length]
      rw [mixR_all] at hr
      go_wp2_with fail
      go_ret
      exact ⟨rfl, hr, hon⟩

set_option maxRecDepth 100000 in
set_option maxHeartbeats 4000000 in
theorem held_disks (base top : Nat) (A : Option Addr) (c : Nat) (ps : List RD) (w : World) (hsz : mkR (dks ps) ≤ 4000000) (h : RBox w base top (.slice A ps.length c) (marksR 1 ps)) :
    Calls Try.prog 42 #[.slice A ps.length c, .int .i64 1] w fun r w' => r = .returned (.int .i64 ((1 + mkR (dks ps) : Nat) : Int)) ∧ Below w.heap.size w w' := by
  go_enter Try.func42, Try.ntmps42
  go_wp2
  go_loopw [1, 5] (fun kv i wr => ∃ j : Nat, j ≤ ps.length ∧ i = .int .i64 j ∧ kv = .int .i64 ((1 + mkR (dks (ps.take j)) : Nat) : Int) ∧ Below w.heap.size w wr) (fun _ i _ => ps.length - (intOf i).toNat)
  case atStart => exact ⟨0, Nat.zero_le _, rfl, rfl, Below.refl _ _⟩
  case round =>
    obtain ⟨j, hj, rfl, rfl, hb⟩ := hrel
    by_cases hlt : j < ps.length
    · have hr := h.below hb
      have hml := marksR_len 1 ps
      have hjm : j < (marksR 1 ps).length := by omega
      have hpe := marksR_at 1 ps j hlt
      obtain ⟨g, o0, rfl, hg1, y0, y1, y2, _⟩ := hr.at_.cell j hjm
      obtain ⟨hdk, _⟩ := hr.2.each _ (List.getElem_mem hjm)
      rw [hpe] at y0 y1 y2 hdk
      have hK := mkR_take hlt
      have hKt := mkR_takes ps (j + 1)
      have hpl := mkR_ge (dks ps)
      rw [dks_len] at hpl
      obtain ⟨K, hKe⟩ : ∃ K, K = 1 + mkR (dks (ps.take j)) := ⟨_, rfl⟩
      rw [← hKe] at y0 y1 y2 hdk ⊢
      obtain ⟨P, hP⟩ : ∃ P, P = ps[j] := ⟨_, rfl⟩
      rw [← hP] at y0 y1 y2 hdk hK
      have hl := markK_len K P.d
      obtain ⟨t, u1, u2, hv, ht, ⟨q1, _⟩, ⟨q2, _⟩⟩ := hdk
      simp only [RD.val, markRD, Value.agg.injEq, Array.mk.injEq, List.cons.injEq, and_true] at hv
      obtain ⟨rfl, rfl⟩ := hv
      simp only [markRD] at y0 y1 y2 q1 q2
      rw [hl.1] at y0 q1
      rw [hl.2] at y1 q2
      have hS := held_strs P.l t P.a P.c P.d.cells.length K wr (by omega) (by omega) q1
      have hT := fun W hW => held_waits P.l P.b P.e P.d.waits.length (K + P.d.cells.length) W (by omega) (by omega) (own_bel (w' := W) q2 hW)
      have c1 : ((K + P.d.cells.length : Nat) : Int) = (K : Int) + (P.d.cells.length : Int) := by omega
      simp only [c1] at hT
      obtain ⟨G, hG⟩ : ∃ G : Nat, G = K + P.d.cells.length + 2 * P.d.waits.length := ⟨_, rfl⟩
      have c2 : (K : Int) + (P.d.cells.length : Int) + 2 * (P.d.waits.length : Int) = (G : Int) := by omega
      have hgo : (markK K P.d).gone = (((G % 3 : Nat) : Int) == 0) := by unfold markK goneM; rw [hG]
      obtain ⟨gb, hgb⟩ : ∃ gb, gb = (markK K P.d).gone := ⟨_, rfl⟩
      rw [← hgb] at hgo y2
      have c4 : ((G : Int) % 3 == 0) = gb := hgo.symm
      have c5 : (gb != gb) = false := by simp
      have nn1 : ¬ ((K : Int) + (P.d.cells.length : Int)) < 0 := by omega
      have nn2 : ¬ (G : Int) < 0 := by omega
      have hjb : j ≤ 4000000 := by omega
      have hGb : G ≤ 9000000 := by omega
      have HK1 := Lib.hid (show 1 + mkR (dks (ps.take (j + 1))) = G + 1 by omega)
      clear hK hKt hKe hpl hgo hgb hG hP hpe hl hml hr q1 q2 ht h c1 hsz
      go_wp2_with (go_at_call 81; refine hS.mono ?_; rintro r w2 ⟨rfl, hb2⟩; refine Hid.out ?_)
      refine Lib.hid ?_
      have z1 := (hb2.cell (p := ⟨g, o0 + j * 3 + 1, none⟩) hg1).trans y1
      have z2 := (hb2.cell (p := ⟨g, o0 + j * 3 + 2, none⟩) hg1).trans y2
      have hT2 := hT w2 hb2
      have hg2 : g < w2.heap.size := Nat.lt_of_lt_of_le hg1 hb2.size
      have hb3 := bel_then hb hb2
      clear hS hT y0 y1 y2 hb2
      go_wp2_with (go_at_call 82; refine hT2.mono ?_; rintro r w3 ⟨rfl, hb4⟩; refine Hid.out ?_)
      refine Lib.hid ?_
      have v2 := (hb4.cell (p := ⟨g, o0 + j * 3 + 2, none⟩) hg2).trans z2
      have hb5 := bel_then hb3 hb4
      clear hT2 z1 z2 hb4 hb3
      go_wp2_with fail
      go_roundw
      case rel => exact ⟨j + 1, by omega, by go_num, by rw [HK1.out]; go_num, hb5⟩
      case measure => simp [intOf]; omega
    · have hke : j = ps.length := by omega
      subst hke
      rw [List.take_length]
      go_wp2_with fail
      go_ret
      exact ⟨rfl, hb⟩

set_option maxHeartbeats 1000000 in
theorem mark_raid (base top : Nat) (A : Option Addr) (c : Nat) (ps : List RD) (w : World) (hsz : mkR (dks ps) ≤ 4000000) (htop : top ≤ w.heap.size) (h : RBox w base top (.slice A ps.length c) ps) :
    Calls Try.prog 14 #[.agg #[.slice A ps.length c], .int .i64 1] w fun r w' => r = .returned (.int .i64 ((1 + mkR (dks ps) : Nat) : Int)) ∧ RBox w' base top (.slice A ps.length c) (marksR 1 ps) ∧ Only base top w w' := by
  have bl : Below w.heap.size w (w.alloc (.cells #[.slice A ps.length c] 24)) := bel_new (Below.refl _ _) _
  have hM := mark_disks base top A c ps _ hsz (by rw [World.size_alloc]; omega) (h.below bl)
  obtain ⟨K, hK⟩ : ∃ K, K = 1 + mkR (dks ps) := ⟨_, rfl⟩
  rw [← hK] at hM ⊢
  clear hsz h hK htop
  go_enter Try.func14, Try.ntmps14
  go_wp2_with (go_at_call 41; refine hM.mono ?_; rintro r w2 ⟨rfl, hr, ho⟩)
  go_ret
  exact ⟨rfl, hr, (Only.of_below bl).trans ho⟩
set_option maxHeartbeats 1000000 in
theorem held_raid (base top : Nat) (A : Option Addr) (c : Nat) (ps : List RD) (w : World) (hsz : mkR (dks ps) ≤ 4000000) (h : RBox w base top (.slice A ps.length c) (marksR 1 ps)) :
    Calls Try.prog 15 #[.agg #[.slice A ps.length c], .int .i64 1] w fun r w' => r = .returned (.int .i64 ((1 + mkR (dks ps) : Nat) : Int)) ∧ Below w.heap.size w w' := by
  have bl : Below w.heap.size w (w.alloc (.cells #[.slice A ps.length c] 24)) := bel_new (Below.refl _ _) _
  have hM := held_disks base top A c ps _ hsz (h.below bl)
  obtain ⟨K, hK⟩ : ∃ K, K = 1 + mkR (dks ps) := ⟨_, rfl⟩
  rw [← hK] at hM ⊢
  have nn : ¬ (K : Int) < 0 := by omega
  clear hsz h hK
  go_enter Try.func15, Try.ntmps15
  go_wp2_with (go_at_call 42; refine hM.mono ?_; rintro r w2 ⟨rfl, hb2⟩)
  go_ret
  exact ⟨rfl, bel_then bl hb2⟩
end Go.Proofs.Ytndckncoipkhaaa
