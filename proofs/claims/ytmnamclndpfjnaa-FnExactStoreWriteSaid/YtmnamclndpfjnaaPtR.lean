/-
  Rows of pointers: a law's copy, its weight, whether two are equal, the marks of a law.
-/
import Derived.Test.YtmnamclndpfjnaaPt
import Derived.Test.YtmnamclndpfjnaaMem
import Derived.Deep.RegionHeld3
namespace Go.Proofs.Ytmnamclndpfjnaa
open Go.RowKit

def P5.cells (p : P5) : List Value := [.int .i64 p.a, .int .i64 p.b, .int .i64 p.c, .int .i64 p.d, .int .i64 p.e]
def flat (ps : List P5) : List Value := ps.flatMap P5.cells
theorem flat_len (ps : List P5) : (flat ps).length = 5 * ps.length := by
  induction ps with
  | nil => rfl
  | cons p ps ih =>
    show (P5.cells p ++ flat ps).length = _
    rw [List.length_append, ih, List.length_cons]
    show 5 + _ = _
    omega
theorem flat_at : ∀ (ps : List P5) (j k : Nat) (hj : j < ps.length), k < 5 → (flat ps)[5 * j + k]? = (P5.cells ps[j])[k]?
  | p :: ps, 0, k, _, hk => by
    show (P5.cells p ++ flat ps)[5 * 0 + k]? = _
    rw [List.getElem?_append_left (by show 5 * 0 + k < 5; omega)]
    simp
  | p :: ps, j + 1, k, hj, hk => by
    show (P5.cells p ++ flat ps)[5 * (j + 1) + k]? = _
    rw [List.getElem?_append_right (by show 5 ≤ 5 * (j + 1) + k; omega), show 5 * (j + 1) + k - (P5.cells p).length = 5 * j + k by show 5 * (j + 1) + k - 5 = _; omega, flat_at ps j k (by simpa using hj) hk]
    rfl
/-- The pointers ps lie in block b, from its head on. -/
def PtrsAt (W : World) (b : Nat) (ps : List P5) : Prop := b < W.heap.size ∧ W.rangeAt b 0 (flat ps)
theorem PtrsAt.below {W W' : World} {b : Nat} {ps : List P5} (h : PtrsAt W b ps) (hb : Below W.heap.size W W') : PtrsAt W' b ps :=
  ⟨Nat.lt_of_lt_of_le h.1 hb.size, fun j v hv => (hb.cell h.1).trans (h.2 j v hv)⟩
theorem PtrsAt.cell {W : World} {b : Nat} {ps : List P5} (h : PtrsAt W b ps) (j : Nat) (hj : j < ps.length) {a c d e f : Int} (hp : ps[j] = ⟨a, c, d, e, f⟩) :
    W.cell? ⟨b, j * 5, none⟩ = some (.int .i64 a) ∧ W.cell? ⟨b, j * 5 + 1, none⟩ = some (.int .i64 c) ∧ W.cell? ⟨b, j * 5 + 2, none⟩ = some (.int .i64 d) ∧ W.cell? ⟨b, j * 5 + 3, none⟩ = some (.int .i64 e) ∧ W.cell? ⟨b, j * 5 + 4, none⟩ = some (.int .i64 f) := by
  have g : ∀ k v, k < 5 → (P5.cells ps[j])[k]? = some v → W.cell? ⟨b, j * 5 + k, none⟩ = some v := fun k v hk hv => by
    have := h.2 (5 * j + k) v ((flat_at ps j k hj hk).trans hv)
    rwa [Nat.zero_add, Nat.mul_comm] at this
  rw [hp] at g
  exact ⟨g 0 _ (by decide) rfl, g 1 _ (by decide) rfl, g 2 _ (by decide) rfl, g 3 _ (by decide) rfl, g 4 _ (by decide) rfl⟩

theorem Try.info45 : (Try.prog.info? 45).map (fun i => (i.zero, i.size, i.bytes)) = some (some (.agg #[.int .i64 0, .int .i64 0, .int .i64 0, .int .i64 0, .int .i64 0]), 5, 40) := by kernel_rfl
def P5z : List Value := [.int .i64 0, .int .i64 0, .int .i64 0, .int .i64 0, .int .i64 0]
def zeros (n : Nat) : List Value := (List.replicate n P5z).flatten
theorem zeros_succ (n : Nat) : zeros (n + 1) = P5z ++ zeros n := by simp [zeros, List.replicate_succ]
theorem zeros_len (n : Nat) : (zeros n).length = 5 * n := by
  induction n with
  | zero => rfl
  | succ n ih =>
    rw [zeros_succ, List.length_append, ih]
    show 5 + _ = _
    omega
theorem made_ptrs (n : Nat) : (madeCells (Value.cells (.agg #[.int .i64 0, .int .i64 0, .int .i64 0, .int .i64 0, .int .i64 0])) (n * 5)).toList = zeros n := by
  apply List.ext_getElem?
  intro i
  have hz : ∀ m k : Nat, k < 5 * m → (zeros m)[k]? = some (.int .i64 0) := by
    intro m
    induction m with
    | zero => intro k hk; omega
    | succ m ih =>
      intro k hk
      rw [zeros_succ]
      by_cases h : k < 5
      · rw [List.getElem?_append_left (by show k < 5; exact h)]
        rcases (show k = 0 ∨ k = 1 ∨ k = 2 ∨ k = 3 ∨ k = 4 by omega) with rfl | rfl | rfl | rfl | rfl <;> rfl
      · rw [List.getElem?_append_right (by show 5 ≤ k; omega)]
        exact ih _ (by show k - 5 < 5 * m; omega)
  by_cases h : i < n * 5
  · rw [hz n i (by omega)]
    have hm : i % 5 < 5 := Nat.mod_lt _ (by decide)
    have : ∀ k, k < 5 → (#[.int .i64 0, .int .i64 0, .int .i64 0, .int .i64 0, .int .i64 0] : Array Value)[k]? = some (.int .i64 0) := by
      intro k hk
      rcases (show k = 0 ∨ k = 1 ∨ k = 2 ∨ k = 3 ∨ k = 4 by omega) with rfl | rfl | rfl | rfl | rfl <;> rfl
    have h5 := this _ hm
    simp [madeCells, Value.cells, h]
    rcases (show i % 5 = 0 ∨ i % 5 = 1 ∨ i % 5 = 2 ∨ i % 5 = 3 ∨ i % 5 = 4 by omega) with e | e | e | e | e <;> simp [e]
  · rw [List.getElem?_eq_none (by simp [madeCells]; omega), List.getElem?_eq_none (by rw [zeros_len]; omega)]
theorem set_five (L R : List Value) (n : Nat) (h : L.length = n) (z0 z1 z2 z3 z4 a c d e f : Value) :
    (((((L ++ z0 :: z1 :: z2 :: z3 :: z4 :: R).set n a).set (n + 1) c).set (n + 2) d).set (n + 3) e).set (n + 4) f = L ++ a :: c :: d :: e :: f :: R := by
  subst h
  simp [List.set_append_right]

/-- The slice address A leads to the pointers ps, five cells each. -/
def PArg (W : World) (A : Option Addr) (ps : List P5) : Prop :=
  0 < ps.length → ∃ b off, A = some ⟨b, off, none⟩ ∧ b < W.heap.size ∧ ∀ (j : Nat) (hj : j < ps.length) (k : Nat) (v : Value), k < 5 → (P5.cells ps[j])[k]? = some v → W.cell? ⟨b, off + (j * 5 + k), none⟩ = some v
theorem PArg.below {W W' : World} {A : Option Addr} {ps : List P5} (h : PArg W A ps) (hb : Below W.heap.size W W') : PArg W' A ps := by
  intro h0
  obtain ⟨b, off, rfl, hlt, hc⟩ := h h0
  exact ⟨b, off, rfl, Nat.lt_of_lt_of_le hlt hb.size, fun j hj k v hk hv => (hb.cell (p := ⟨b, off + (j * 5 + k), none⟩) hlt).trans (hc j hj k v hk hv)⟩
theorem flat_more (ps : List P5) (j : Nat) (h : j < ps.length) : flat (ps.take (j + 1)) = flat (ps.take j) ++ P5.cells ps[j] := by
  unfold flat
  rw [List.take_succ_eq_append_getElem h, List.flatMap_append]
  simp
theorem PtrsAt.of_own {W : World} {base g cap : Nat} {ps : List P5} (h : W.ownsRow base 45 5 (.slice (some ⟨g, 0, none⟩) ps.length cap) ps.length (flat ps)) : PtrsAt W g ps := by
  refine ⟨(h.lt g rfl).2, fun j v hv => ?_⟩
  have hj : j < (flat ps).length := (List.getElem?_eq_some_iff.1 hv).1
  rw [flat_len] at hj
  rw [Nat.zero_add, h.cellAt j (by omega), hv]

theorem sz_ptrs (A : Option Addr) (cap n : Nat) (w : World) (hn : n ≤ maxLen) :
    Calls Try.prog 47 #[.slice A n cap, .int .i64 1048576] w fun e w' => e = .returned (.int .i64 (if (1048576 : Int) < n then -1 else 1048576 - n)) ∧ w = w' := by
  unfold maxLen at hn
  by_cases h : (1048576 : Int) < (n : Int)
  · rw [if_pos h]
    have h2 : (1048576 : Int) - (n : Int) < 0 := by omega
    go_enter Try.func47, Try.ntmps47
    go_wp2
    go_ret
    exact ⟨rfl, rfl⟩
  · rw [if_neg h]
    have h2 : ¬ (1048576 : Int) - (n : Int) < 0 := by omega
    go_enter Try.func47, Try.ntmps47
    go_wp2
    go_ret
    exact ⟨rfl, rfl⟩

theorem own_set5 {W : World} {base g n cap k : Nat} {ps : List P5} {R : List Value} (h : W.ownsRow base 45 5 (.slice (some ⟨g, 0, none⟩) n cap) n (flat (ps.take k) ++ P5z ++ R)) (hk : k < ps.length) {a c d e f : Int} (hp : ps[k] = ⟨a, c, d, e, f⟩) :
    (((((W.setCell ⟨g, k * 5, none⟩ (.int .i64 a)).setCell ⟨g, k * 5 + 1, none⟩ (.int .i64 c)).setCell ⟨g, k * 5 + 2, none⟩ (.int .i64 d)).setCell ⟨g, k * 5 + 3, none⟩ (.int .i64 e)).setCell ⟨g, k * 5 + 4, none⟩ (.int .i64 f)).ownsRow base 45 5 (.slice (some ⟨g, 0, none⟩) n cap) n (flat (ps.take (k + 1)) ++ R) := by
  have h5 := ((((((h.stored (k * 5) (.int .i64 a)).1).stored (k * 5 + 1) (.int .i64 c)).1).stored (k * 5 + 2) (.int .i64 d)).1.stored (k * 5 + 3) (.int .i64 e)).1.stored (k * 5 + 4) (.int .i64 f)
  have h6 := h5.1
  have hl : (flat (ps.take k)).length = k * 5 := by rw [flat_len, List.length_take]; omega
  rw [show flat (ps.take k) ++ P5z ++ R = flat (ps.take k) ++ (.int .i64 0) :: (.int .i64 0) :: (.int .i64 0) :: (.int .i64 0) :: (.int .i64 0) :: R by simp [P5z], set_five _ R (k * 5) hl] at h6
  rw [flat_more ps k hk, hp]
  simpa [P5.cells] using h6
theorem own_cells5 {W : World} {base g n cap k : Nat} {ps : List P5} {R : List Value} (h : W.ownsRow base 45 5 (.slice (some ⟨g, 0, none⟩) n cap) n (flat (ps.take k) ++ P5z ++ R)) (hk : k < ps.length) (hn : k < n) :
    W.cell? ⟨g, k * 5, none⟩ = some (.int .i64 0) ∧ W.cell? ⟨g, k * 5 + 1, none⟩ = some (.int .i64 0) ∧ W.cell? ⟨g, k * 5 + 2, none⟩ = some (.int .i64 0) ∧ W.cell? ⟨g, k * 5 + 3, none⟩ = some (.int .i64 0) ∧ W.cell? ⟨g, k * 5 + 4, none⟩ = some (.int .i64 0) := by
  have hl : (flat (ps.take k)).length = k * 5 := by rw [flat_len, List.length_take]; omega
  have g0 : ∀ i, i < 5 → W.cell? ⟨g, k * 5 + i, none⟩ = some (.int .i64 0) := fun i hi => by
    rw [h.cellAt (k * 5 + i) (by omega), List.append_assoc, List.getElem?_append_right (by omega), hl, show k * 5 + i - k * 5 = i by omega]
    rcases (show i = 0 ∨ i = 1 ∨ i = 2 ∨ i = 3 ∨ i = 4 by omega) with rfl | rfl | rfl | rfl | rfl <;> rfl
  exact ⟨g0 0 (by decide), g0 1 (by decide), g0 2 (by decide), g0 3 (by decide), g0 4 (by decide)⟩

def ToPs (ps : List P5) (w : World) (e : Ending) (w' : World) : Prop :=
  ∃ g, e = .returned (.slice (some ⟨g, 0, none⟩) ps.length ps.length) ∧ w'.ownsRow w.heap.size 45 5 (.slice (some ⟨g, 0, none⟩) ps.length ps.length) ps.length (flat ps) ∧ Below w.heap.size w w'

set_option maxRecDepth 100000 in
set_option maxHeartbeats 2000000 in
theorem to_ptrs (A : Option Addr) (cap : Nat) (ps : List P5) (w : World) (hn : ps.length ≤ 1048576) (hA : PArg w A ps) :
    Calls Try.prog 54 #[.slice A ps.length cap] w (ToPs ps w) := by
  obtain ⟨i0, hi, hz0, hz1, hz2⟩ := info_parts Try.info45
  go_enter Try.func54, Try.ntmps54
  go_wp2_with (refine wpList_make_full _ rfl _ _ 26 rfl w.heap.size 45 i0 (.agg #[.int .i64 0, .int .i64 0, .int .i64 0, .int .i64 0, .int .i64 0]) 5 Try.underlying26 hi hz0 hz1 _ _ _ _ ps.length rfl rfl rfl rfl (by rw [hz2]; omega) (by unfold maxLen; omega) (Nat.le_refl _) ?_; intro w1 hown hgrow; rw [made_ptrs] at hown)
  go_loopw [4] (fun i wr => ∃ k : Nat, k ≤ ps.length ∧ i = .int .i64 k ∧ wr.ownsRow w.heap.size 45 5 (.slice (some ⟨w.heap.size, 0, none⟩) ps.length ps.length) ps.length (flat (ps.take k) ++ zeros (ps.length - k)) ∧ Below w.heap.size w wr) (fun i _ => ps.length - (intOf i).toNat)
  case atStart => exact ⟨0, Nat.zero_le _, rfl, hown, (Below.refl _ _).grown hgrow (Nat.le_refl _) (fun k e => by cases e)⟩
  case round =>
    obtain ⟨k, hk, rfl, ho, hb⟩ := hrel
    clear hown hgrow
    by_cases hlt : k < ps.length
    · obtain ⟨b, off, rfl, hlb, hc⟩ := (hA.below hb) (by omega)
      obtain ⟨a, c, d, e, f, hp⟩ : ∃ a c d e f, ps[k] = ⟨a, c, d, e, f⟩ := ⟨_, _, _, _, _, rfl⟩
      have hck := hc k hlt
      rw [hp] at hck
      have y0 : wr.cell? ⟨b, off + k * 5, none⟩ = some (.int .i64 a) := hck 0 _ (by decide) rfl
      have y1 : wr.cell? ⟨b, off + k * 5 + 1, none⟩ = some (.int .i64 c) := hck 1 _ (by decide) rfl
      have y2 : wr.cell? ⟨b, off + k * 5 + 2, none⟩ = some (.int .i64 d) := hck 2 _ (by decide) rfl
      have y3 : wr.cell? ⟨b, off + k * 5 + 3, none⟩ = some (.int .i64 e) := hck 3 _ (by decide) rfl
      have y4 : wr.cell? ⟨b, off + k * 5 + 4, none⟩ = some (.int .i64 f) := hck 4 _ (by decide) rfl
      obtain ⟨m, hm⟩ : ∃ m, ps.length - k = m + 1 := ⟨ps.length - k - 1, by omega⟩
      have hm1 : ps.length - (k + 1) = m := by omega
      rw [hm, zeros_succ, ← List.append_assoc] at ho
      have hT : ∀ W, Calls Try.prog 21 #[.agg #[.int .i64 a, .int .i64 c, .int .i64 d, .int .i64 e, .int .i64 f]] W fun r w' => r = .returned (.agg #[.int .i64 a, .int .i64 c, .int .i64 d, .int .i64 e, .int .i64 f]) ∧ Below W.heap.size W w' := fun W => (to_ptr a c d e f W).mono fun r w' ⟨h1, h2⟩ => ⟨h1, h2 ▸ bel_new (bel_new (bel_new (Below.refl _ _) _) _) _⟩
      have HM := Lib.hid hm1
      have HP := Lib.hid hp
      clear hc hck hm hm1 hp hA
      go_wp2_with (go_at_call 21; refine (hT _).mono ?_; rintro r w2 ⟨rfl, hb2⟩; have ho2 := own_bel ho hb2; obtain ⟨z0, z1, z2, z3, z4⟩ := own_cells5 ho2 hlt hlt; have f0 := ho2.frozenAt (k * 5); have f1 := ho2.frozenAt (k * 5 + 1); have f2 := ho2.frozenAt (k * 5 + 2); have f3 := ho2.frozenAt (k * 5 + 3); have f4 := ho2.frozenAt (k * 5 + 4))
      have B5 := (((((bel_then hb hb2).setCell (p := ⟨w.heap.size, k * 5, none⟩) (Nat.le_refl _) (.int .i64 a)).setCell (p := ⟨w.heap.size, k * 5 + 1, none⟩) (Nat.le_refl _) (.int .i64 c)).setCell (p := ⟨w.heap.size, k * 5 + 2, none⟩) (Nat.le_refl _) (.int .i64 d)).setCell (p := ⟨w.heap.size, k * 5 + 3, none⟩) (Nat.le_refl _) (.int .i64 e)).setCell (p := ⟨w.heap.size, k * 5 + 4, none⟩) (Nat.le_refl _) (.int .i64 f)
      go_roundw
      case rel => exact ⟨k + 1, by omega, by go_num, by rw [HM.out]; exact own_set5 ho2 hlt HP.out, B5⟩
      case measure => simp [intOf]; omega
    · have hke : k = ps.length := by omega
      subst hke
      rw [List.take_length, Nat.sub_self] at ho
      rw [show zeros 0 = [] from rfl, List.append_nil] at ho
      go_wp2
      go_ret
      exact ⟨_, rfl, ho, hb⟩

/-- The cells of two pointers, kept. -/
def TwoPt (w : World) (g h x : Nat) (a c d e f : Int) (W : World) : Prop :=
  W.cell? ⟨g, x, none⟩ = some (.int .i64 a) ∧ W.cell? ⟨g, x + 1, none⟩ = some (.int .i64 c) ∧ W.cell? ⟨g, x + 2, none⟩ = some (.int .i64 d) ∧ W.cell? ⟨g, x + 3, none⟩ = some (.int .i64 e) ∧ W.cell? ⟨g, x + 4, none⟩ = some (.int .i64 f) ∧ W.cell? ⟨h, x, none⟩ = some (.int .i64 a) ∧ W.cell? ⟨h, x + 1, none⟩ = some (.int .i64 c) ∧ W.cell? ⟨h, x + 2, none⟩ = some (.int .i64 d) ∧ W.cell? ⟨h, x + 3, none⟩ = some (.int .i64 e) ∧ W.cell? ⟨h, x + 4, none⟩ = some (.int .i64 f) ∧ g < W.heap.size ∧ h < W.heap.size ∧ Below w.heap.size w W
theorem TwoPt.next {w W W' : World} {g h x : Nat} {a c d e f : Int} (k : TwoPt w g h x a c d e f W) (hb : Below W.heap.size W W') : TwoPt w g h x a c d e f W' := by
  obtain ⟨a0, a1, a2, a3, a4, b0, b1, b2, b3, b4, hg, hh, hw⟩ := k
  exact ⟨(hb.cell hg).trans a0, (hb.cell hg).trans a1, (hb.cell hg).trans a2, (hb.cell hg).trans a3, (hb.cell hg).trans a4, (hb.cell hh).trans b0, (hb.cell hh).trans b1, (hb.cell hh).trans b2, (hb.cell hh).trans b3, (hb.cell hh).trans b4, Nat.lt_of_lt_of_le hg hb.size, Nat.lt_of_lt_of_le hh hb.size, bel_then hw hb⟩
theorem TwoPt.drew {w W : World} {g h x : Nat} {a c d e f : Int} (k : TwoPt w g h x a c d e f W) : TwoPt w g h x a c d e f W.drew := by
  obtain ⟨a0, a1, a2, a3, a4, b0, b1, b2, b3, b4, hg, hh, hw⟩ := k
  exact ⟨a0, a1, a2, a3, a4, b0, b1, b2, b3, b4, hg, hh, hw.drew⟩

set_option maxRecDepth 100000 in
set_option maxHeartbeats 2000000 in
theorem eq_ptrs (g h cg ch : Nat) (ps : List P5) (w : World) (hn : ps.length ≤ 1048576) (hG : PtrsAt w g ps) (hH : PtrsAt w h ps) :
    Calls Try.prog 38 #[.slice (some ⟨g, 0, none⟩) ps.length cg, .slice (some ⟨h, 0, none⟩) ps.length ch] w fun e w' => e = .returned (.bool true) ∧ Below w.heap.size w w' := by
  have hq0 : ((ps.length : Int) != (ps.length : Int)) = false := by simp
  go_enter Try.func38, Try.ntmps38
  go_wp2
  go_loopw [5] (fun i wr => ∃ k : Nat, k ≤ ps.length ∧ i = .int .i64 k ∧ PtrsAt wr g ps ∧ PtrsAt wr h ps ∧ Below w.heap.size w wr) (fun i _ => ps.length - (intOf i).toNat)
  case atStart => exact ⟨0, Nat.zero_le _, rfl, hG, hH, Below.refl _ _⟩
  case round =>
    obtain ⟨k, hk, rfl, hg, hh, hb⟩ := hrel
    clear hG hH
    by_cases hlt : k < ps.length
    · obtain ⟨a, c, d, e, f, hp⟩ : ∃ a c d e f, ps[k] = ⟨a, c, d, e, f⟩ := ⟨_, _, _, _, _, rfl⟩
      have q1 := hg.cell k hlt hp
      have q2 := hh.cell k hlt hp
      obtain ⟨y0, y1, y2, y3, y4⟩ := id q1
      obtain ⟨z0, z1, z2, z3, z4⟩ := id q2
      clear hp
      have K0 : TwoPt wr g h (k * 5) a c d e f wr := ⟨y0, y1, y2, y3, y4, z0, z1, z2, z3, z4, hg.1, hh.1, Below.refl _ _⟩
      have K1 := K0.drew
      have hE : ∀ W, Calls Try.prog 25 #[.agg #[.int .i64 a, .int .i64 c, .int .i64 d, .int .i64 e, .int .i64 f], .agg #[.int .i64 a, .int .i64 c, .int .i64 d, .int .i64 e, .int .i64 f]] W fun r w' => r = .returned (.bool true) ∧ Below W.heap.size W w' := fun W => (eq_ptr a c d e f W).mono fun r w' ⟨h1, h2⟩ => ⟨h1, h2 ▸ bel_new (bel_new (Below.refl _ _) _) _⟩
      go_wp2_with fail
      go_region_held3 (fun W => W.cell? ⟨g, k * 5, none⟩ = some (.int .i64 a) ∧ W.cell? ⟨g, k * 5 + 1, none⟩ = some (.int .i64 c) ∧ W.cell? ⟨g, k * 5 + 2, none⟩ = some (.int .i64 d) ∧ W.cell? ⟨g, k * 5 + 3, none⟩ = some (.int .i64 e) ∧ W.cell? ⟨g, k * 5 + 4, none⟩ = some (.int .i64 f) ∧ W.cell? ⟨h, k * 5, none⟩ = some (.int .i64 a) ∧ W.cell? ⟨h, k * 5 + 1, none⟩ = some (.int .i64 c) ∧ W.cell? ⟨h, k * 5 + 2, none⟩ = some (.int .i64 d) ∧ W.cell? ⟨h, k * 5 + 3, none⟩ = some (.int .i64 e) ∧ W.cell? ⟨h, k * 5 + 4, none⟩ = some (.int .i64 f) ∧ g < W.heap.size ∧ h < W.heap.size ∧ Below wr.heap.size wr W)
        ((show TwoPt wr g h (k * 5) a c d e f _; with_reducible (first | exact K0 | exact K1 | exact hk2)))
        (first | (go_at_call 25; refine (hE _).mono ?_; rintro r w2 ⟨rfl, hb2⟩; have hk2 := K1.next hb2))
      have W2 : Below wr.heap.size wr w2 := hk2.2.2.2.2.2.2.2.2.2.2.2.2
      go_wp2_with fail
      go_roundw
      case rel => exact ⟨k + 1, by omega, by go_num, hg.below W2, hh.below W2, bel_then hb W2⟩
      case measure => simp [intOf]; omega
    · have hke : k = ps.length := by omega
      subst hke
      go_wp2
      go_ret
      exact ⟨rfl, hb⟩
def marksV (m : Nat) : List Value := (List.range m).map fun i : Nat => .int .i64 ((i : Int) + 1)
theorem marksV_len (m : Nat) : (marksV m).length = m := by simp [marksV]
theorem marksV_five (j : Nat) : marksV (5 * (j + 1)) = marksV (5 * j) ++ [.int .i64 (1 + 5 * (j : Int)), .int .i64 (1 + 5 * (j : Int) + 1), .int .i64 (1 + 5 * (j : Int) + 1 + 1), .int .i64 (1 + 5 * (j : Int) + 1 + 1 + 1), .int .i64 (1 + 5 * (j : Int) + 1 + 1 + 1 + 1)] := by
  unfold marksV
  rw [show 5 * (j + 1) = 5 * j + 1 + 1 + 1 + 1 + 1 by omega]
  simp only [List.range_succ, List.map_append, List.map_cons, List.map_nil, List.append_assoc, List.cons_append, List.nil_append]
  congr 2
  · congr 1; omega
  congr 1
  · congr 1; omega
  congr 1
  · congr 1; omega
  congr 1
  · congr 1; omega
  congr 1
  congr 1; omega
theorem marksV_at (n j k : Nat) (hj : j < n) (hk : k < 5) : (marksV (5 * n))[j * 5 + k]? = some (.int .i64 (1 + 5 * (j : Int) + k)) := by
  unfold marksV
  rw [List.getElem?_map, List.getElem?_range (by omega)]
  simp only [Option.map_some, Option.some.injEq, Value.int.injEq, true_and]
  omega

set_option maxRecDepth 100000 in
set_option maxHeartbeats 4000000 in
theorem mark_ptrs (t : TypeId) (base g c n : Nat) (xs : List Value) (w : World) (hn : n ≤ 1048576) (ho : w.ownsRow base t 5 (.slice (some ⟨g, 0, none⟩) n c) n xs) :
    Calls Try.prog 41 #[.slice (some ⟨g, 0, none⟩) n c, .int .i64 1] w fun e w' => e = .returned (.int .i64 (1 + 5 * (n : Int))) ∧ w'.ownsRow base t 5 (.slice (some ⟨g, 0, none⟩) n c) n (marksV (5 * n)) ∧ w.grownBy w' (some g) := by
  have hxl : xs.length = 5 * n := by have := ho.1; omega
  go_enter Try.func41, Try.ntmps41
  go_wp2
  go_loopw [1, 5] (fun kv i wr => ∃ j : Nat, j ≤ n ∧ i = .int .i64 j ∧ kv = .int .i64 (1 + 5 * (j : Int)) ∧ wr.ownsRow base t 5 (.slice (some ⟨g, 0, none⟩) n c) n (marksV (5 * j) ++ xs.drop (5 * j)) ∧ w.grownBy wr (some g)) (fun _ i _ => n - (intOf i).toNat)
  case atStart => exact ⟨0, Nat.zero_le _, rfl, rfl, by simpa [marksV] using ho, World.grownBy.refl w (some g)⟩
  case round =>
    obtain ⟨j, hj, rfl, rfl, hr, hgr⟩ := hrel
    clear ho
    by_cases hlt : j < n
    · have hlt' : (j : Int) < (n : Int) := by omega
      obtain ⟨x0, x1, x2, x3, x4, R, hR, hd⟩ : ∃ x0 x1 x2 x3 x4 R, xs.drop (5 * j) = x0 :: x1 :: x2 :: x3 :: x4 :: R ∧ R = xs.drop (5 * (j + 1)) := by
        have hl : (xs.drop (5 * j)).length = 5 * n - 5 * j := by rw [List.length_drop, hxl]
        match h : xs.drop (5 * j) with
        | x0 :: x1 :: x2 :: x3 :: x4 :: R =>
          refine ⟨x0, x1, x2, x3, x4, R, rfl, ?_⟩
          rw [show 5 * (j + 1) = 5 * j + 5 by omega, ← List.drop_drop, h]
          rfl
        | [] => rw [h] at hl; simp at hl; omega
        | [_] => rw [h] at hl; simp at hl; omega
        | [_, _] => rw [h] at hl; simp at hl; omega
        | [_, _, _] => rw [h] at hl; simp at hl; omega
        | [_, _, _, _] => rw [h] at hl; simp at hl; omega
      rw [hR] at hr
      have hml : (marksV (5 * j)).length = j * 5 := by rw [marksV_len]; omega
      have cell : ∀ i v, i < 5 → (x0 :: x1 :: x2 :: x3 :: x4 :: R)[i]? = some v → wr.cell? ⟨g, j * 5 + i, none⟩ = some v := fun i v hi hv => by
        rw [hr.cellAt (j * 5 + i) (by omega), List.getElem?_append_right (by omega), hml, show j * 5 + i - j * 5 = i by omega, hv]
      have y0 : wr.cell? ⟨g, j * 5, none⟩ = some x0 := cell 0 _ (by decide) rfl
      have y1 : wr.cell? ⟨g, j * 5 + 1, none⟩ = some x1 := cell 1 _ (by decide) rfl
      have y2 : wr.cell? ⟨g, j * 5 + 2, none⟩ = some x2 := cell 2 _ (by decide) rfl
      have y3 : wr.cell? ⟨g, j * 5 + 3, none⟩ = some x3 := cell 3 _ (by decide) rfl
      have y4 : wr.cell? ⟨g, j * 5 + 4, none⟩ = some x4 := cell 4 _ (by decide) rfl
      have f0 := hr.frozenAt (j * 5)
      have f1 := hr.frozenAt (j * 5 + 1)
      have f2 := hr.frozenAt (j * 5 + 2)
      have f3 := hr.frozenAt (j * 5 + 3)
      have f4 := hr.frozenAt (j * 5 + 4)
      have H5 := Lib.hid (marksV_five j)
      have HD := Lib.hid hd
      clear hR hd cell
      go_wp2_with fail
      have S0 := hr.stored (j * 5) (.int .i64 (1 + 5 * (j : Int)))
      have S1 := S0.1.stored (j * 5 + 1) (.int .i64 (1 + 5 * (j : Int) + 1))
      have S2 := S1.1.stored (j * 5 + 2) (.int .i64 (1 + 5 * (j : Int) + 1 + 1))
      have S3 := S2.1.stored (j * 5 + 3) (.int .i64 (1 + 5 * (j : Int) + 1 + 1 + 1))
      have S4 := S3.1.stored (j * 5 + 4) (.int .i64 (1 + 5 * (j : Int) + 1 + 1 + 1 + 1))
      have HG := ((((hgr.trans S0.2).trans S1.2).trans S2.2).trans S3.2).trans S4.2
      have R5 := S4.1
      rw [set_five _ R (j * 5) hml] at R5
      go_roundw
      case rel => exact ⟨j + 1, by omega, by go_num, by go_num, by rw [H5.out, ← HD.out, List.append_assoc]; exact R5, HG⟩
      case measure => simp [intOf]; omega
    · obtain rfl : j = n := by omega
      rw [List.drop_of_length_le (by omega), List.append_nil] at hr
      go_wp2
      go_ret
      exact ⟨rfl, hr, hgr⟩

end Go.Proofs.Ytmnamclndpfjnaa
