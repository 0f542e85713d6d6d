/-
  The reader of drawn bytes: l6Open makes it, pick answers a number below its argument.
-/
import Derived.Test.YtehmaacbmkfedaaDoorPutI
import Derived.WalkSmall
import Derived.IntWalk
import Derived.Deep.DeepCutAuto
import Derived.Deep.CutBlock
import Derived.Deep.LoopGhost
import Derived.Laws.Bits64
namespace Go.Proofs.YtehmaacbmkfedaaDoor
open Go.RowKit

/-- The slice address A leads to n bytes. -/
def BytesAt (w : World) (A : Option Addr) (n : Nat) : Prop :=
  0 < n → ∃ b off, A = some ⟨b, off, none⟩ ∧ b < w.heap.size ∧ ∀ j, j < n → ∃ z : Int, 0 ≤ z ∧ z ≤ 255 ∧ w.cell? ⟨b, off + j, none⟩ = some (.int .u8 z)

structure IsRd (w0 w : World) (B : Nat) (A : Option Addr) (m cap p : Nat) : Prop where
  blk : w.heap[B]? = some (.cells #[.slice A m cap, .int .i64 (p : Int)] 93 (0, 0))
  bts : BytesAt w0 A m
  old : w0.heap.size ≤ B
  bel : Below w0.heap.size w0 w
  few : m ≤ 2000

theorem IsRd.c0 {w0 w : World} {B : Nat} {A : Option Addr} {m cap p : Nat} (h : IsRd w0 w B A m cap p) : w.cell? ⟨B, 0, none⟩ = some (.slice A m cap) := by simp [World.cell?, h.blk]
theorem IsRd.c1 {w0 w : World} {B : Nat} {A : Option Addr} {m cap p : Nat} (h : IsRd w0 w B A m cap p) : w.cell? ⟨B, 1, none⟩ = some (.int .i64 (p : Int)) := by simp [World.cell?, h.blk]
theorem IsRd.f1 {w0 w : World} {B : Nat} {A : Option Addr} {m cap p : Nat} (h : IsRd w0 w B A m cap p) : w.frozen? ⟨B, 1, none⟩ = false := by simp [World.frozen?, h.blk]
theorem IsRd.lt {w0 w : World} {B : Nat} {A : Option Addr} {m cap p : Nat} (h : IsRd w0 w B A m cap p) : B < w.heap.size := (Array.getElem?_eq_some_iff.1 h.blk).1

theorem bits_xor_i64_nat (a b : Nat) (ha : a < 4294967296) (hb : b < 4294967296) : bits .xor .i64 (a : Int) (b : Int) = ((a ^^^ b : Nat) : Int) ∧ a ^^^ b < 4294967296 := by
  have hx : a ^^^ b < 2 ^ 32 := Nat.xor_lt_two_pow (by omega) (by omega)
  have h1 : (BitVec.ofInt IntKind.i64.bits (a : Int)).toNat = a := by
    simp [IntKind.bits]; omega
  have h2 : (BitVec.ofInt IntKind.i64.bits (b : Int)).toNat = b := by
    simp [IntKind.bits]; omega
  refine ⟨?_, by omega⟩
  unfold bits
  simp only [BitVec.toNat_xor, h1, h2]
  exact IntWalk.i64_in _ (by omega)

def PickPost (w : World) (B p : Nat) (n : Int) (e : Ending) (w' : World) : Prop :=
  ∃ x : Int, 0 ≤ x ∧ x < n ∧ e = .returned (.int .i64 x) ∧ ∃ q, w' = (w.setCell ⟨B, 1, none⟩ (.int .i64 ((p : Int) + 1))).drewN q

theorem IsRd.next {w0 w : World} {B : Nat} {A : Option Addr} {m cap p : Nat} (h : IsRd w0 w B A m cap p) (q : Nat) : IsRd w0 ((w.setCell ⟨B, 1, none⟩ (.int .i64 ((p : Int) + 1))).drewN q) B A m cap (p + 1) := by
  refine ⟨?_, h.bts, h.old, below_drewN (h.bel.setCell (p := ⟨B, 1, none⟩) h.old _) q, h.few⟩
  show (w.setCell ⟨B, 1, none⟩ (.int .i64 ((p : Int) + 1))).heap[B]? = _
  have hb := h.blk
  simp [World.setCell, Array.getElem?_modify, hb]

set_option maxHeartbeats 1000000 in
theorem pick_any (w0 w : World) (B : Nat) (A : Option Addr) (m cap p : Nat) (n : Int) (h : IsRd w0 w B A m cap p) (hp : p ≤ 1000000) (hn1 : 1 ≤ n) (hn2 : n ≤ 1000000) :
    Calls Tryd.prog 37 #[.pointer (some ⟨B, 0, none⟩), .int .i64 n] w (PickPost w B p n) := by
  have hc0 := h.c0
  have hc1 := h.c1
  have hf1 := h.f1
  have hB := h.lt
  have hm := h.few
  have hn1' : ¬ n < 1 := by omega
  by_cases h0 : m = 0
  · have hm0 : ((m : Int) == 0) = true := by simp [h0]
    go_enter Tryd.func37, Tryd.ntmps37
    go_wp2
    go_ret
    exact ⟨0, by omega, by omega, rfl, 0, rfl⟩
  · have hm0 : ((m : Int) == 0) = false := by simp [h0]
    obtain ⟨b, off, rfl, hb, hcs⟩ := h.bts (by omega)
    have hbB : b < B := Nat.lt_of_lt_of_le hb h.old
    have hcs' : ∀ j, j < m → ∃ z : Int, 0 ≤ z ∧ z ≤ 255 ∧ w.cell? ⟨b, off + j, none⟩ = some (.int .u8 z) := fun j hj => by
      obtain ⟨z, z0, z1, hz⟩ := hcs j hj
      exact ⟨z, z0, z1, (h.bel.cell (p := ⟨b, off + j, none⟩) hb).trans hz⟩
    by_cases hk : p < m
    · obtain ⟨z, z0, z1, hz⟩ := hcs' p hk
      have hz2 : (w.setCell ⟨B, 1, none⟩ (.int .i64 ((p : Int) + 1))).cell? ⟨b, off + p, none⟩ = some (.int .u8 z) := by
        rw [World.cell?_setCell_other _ _ _ _ (by intro e; injection e with e1; omega)]
        exact hz
      have r0 : 0 ≤ z % n := Int.emod_nonneg _ (by omega)
      have r1 : z % n < n := Int.emod_lt_of_pos _ (by omega)
      clear hcs hcs' h0
      go_enter Tryd.func37, Tryd.ntmps37
      go_wp2_with fail
      go_ret
      exact ⟨z % n, r0, r1, rfl, 0, rfl⟩
    · obtain ⟨i1, hi1⟩ : ∃ i1, i1 = p % m := ⟨_, rfl⟩
      obtain ⟨i2, hi2⟩ : ∃ i2, i2 = (p * 7 + 3) % m := ⟨_, rfl⟩
      have l1 : i1 < m := by rw [hi1]; exact Nat.mod_lt _ (by omega)
      have l2 : i2 < m := by rw [hi2]; exact Nat.mod_lt _ (by omega)
      obtain ⟨z1, a0, a1, hz1⟩ := hcs' i1 l1
      obtain ⟨z2, b0, b1, hz2⟩ := hcs' i2 l2
      have hw1 : (w.setCell ⟨B, 1, none⟩ (.int .i64 ((p : Int) + 1))).cell? ⟨b, off + i1, none⟩ = some (.int .u8 z1) := by
        rw [World.cell?_setCell_other _ _ _ _ (by intro e; injection e with e1; omega)]
        exact hz1
      have hw2 : (w.setCell ⟨B, 1, none⟩ (.int .i64 ((p : Int) + 1))).cell? ⟨b, off + i2, none⟩ = some (.int .u8 z2) := by
        rw [World.cell?_setCell_other _ _ _ _ (by intro e; injection e with e1; omega)]
        exact hz2
      obtain ⟨d, hd⟩ : ∃ d, d = p / m := ⟨_, rfl⟩
      have hdp : d ≤ p := by rw [hd]; exact Nat.div_le_self _ _
      have t1 : (p : Int).tmod (m : Int) = (i1 : Int) := by rw [hi1, Int.tmod_eq_emod_of_nonneg (by omega)]; rfl
      have t2 : ((p : Int) * 7 + 3).tmod (m : Int) = (i2 : Int) := by rw [hi2, Int.tmod_eq_emod_of_nonneg (by omega)]; rfl
      have t3 : (p : Int).tdiv (m : Int) = (d : Int) := by rw [hd, Int.tdiv_eq_ediv_of_nonneg (by omega)]; rfl
      have e1 : IntKind.i64.wrap ((p : Int) * 7) = (p : Int) * 7 := IntWalk.i64_in _ (by omega)
      have e2 : IntKind.i64.wrap ((p : Int) * 7 + 3) = (p : Int) * 7 + 3 := IntWalk.i64_in _ (by omega)
      have e3 : IntKind.i64.wrap (z1 * 131) = z1 * 131 := IntWalk.i64_in _ (by omega)
      have e4 : IntKind.i64.wrap (z2 * 1117) = z2 * 1117 := IntWalk.i64_in _ (by omega)
      have e5 : IntKind.i64.wrap (z1 * 131 + z2 * 1117) = z1 * 131 + z2 * 1117 := IntWalk.i64_in _ (by omega)
      have e6 : IntKind.i64.wrap ((p : Int) * 29) = (p : Int) * 29 := IntWalk.i64_in _ (by omega)
      have e7 : IntKind.i64.wrap (z1 * 131 + z2 * 1117 + (p : Int) * 29) = z1 * 131 + z2 * 1117 + (p : Int) * 29 := IntWalk.i64_in _ (by omega)
      have e8 : IntKind.i64.wrap (d : Int) = (d : Int) := IntWalk.i64_in _ (by omega)
      have e9 : IntKind.i64.wrap ((d : Int) * 53) = (d : Int) * 53 := IntWalk.i64_in _ (by omega)
      obtain ⟨y, hy⟩ : ∃ y, y = z1 * 131 + z2 * 1117 + (p : Int) * 29 + (d : Int) * 53 := ⟨_, rfl⟩
      have hy0 : 0 ≤ y := by omega
      have hy1 : y ≤ 1000000000 := by omega
      have e10 : IntKind.i64.wrap (z1 * 131 + z2 * 1117 + (p : Int) * 29 + (d : Int) * 53) = y := by rw [← hy]; exact IntWalk.i64_in _ (by omega)
      have l1' : (i1 : Int) < (m : Int) := by omega
      have l2' : (i2 : Int) < (m : Int) := by omega
      clear hcs hcs' h0 hi1 hi2 hd hy hz1 hz2
      go_enter Tryd.func37, Tryd.ntmps37
      go_wp2_with fail
      go_quiet (fail)
      clear e1 e2 e3 e4 e5 e6 e7 e8 e9 e10 t1 t2 t3
      obtain ⟨x, hx, hx0⟩ : ∃ x, bits .xor .i64 y (y / 64) = x ∧ 0 ≤ x := by
        obtain ⟨a, ha⟩ : ∃ a : Nat, y = (a : Int) := ⟨y.toNat, by omega⟩
        have hq : y / 64 = ((a / 64 : Nat) : Int) := by rw [ha]; rfl
        have hb := (bits_xor_i64_nat a (a / 64) (by omega) (by omega)).1
        refine ⟨_, rfl, ?_⟩
        rw [hq, ha, hb]
        omega
      have r0 : 0 ≤ x % n := Int.emod_nonneg _ (by omega)
      have r1 : x % n < n := Int.emod_lt_of_pos _ (by omega)
      go_wp2_with fail
      go_ret
      exact ⟨x % n, r0, r1, rfl, nq, rfl⟩

theorem setCell_grown (w : World) (b i : Nat) (v : Value) : w.grownBy (w.setCell ⟨b, i, none⟩ v) (some b) :=
  ⟨rfl, rfl, rfl, by simp [World.setCell], fun k _ hk => Below.heap_setCell _ _ _ k (fun e => hk (by rw [e]))⟩

def PickPost2 (w0 w : World) (B : Nat) (A : Option Addr) (m cap p : Nat) (n : Int) (e : Ending) (w' : World) : Prop :=
  ∃ x : Int, 0 ≤ x ∧ x < n ∧ e = .returned (.int .i64 x) ∧ IsRd w0 w' B A m cap (p + 1) ∧ w.grownBy w' (some B)
theorem pick_rd (w0 w : World) (B : Nat) (A : Option Addr) (m cap p : Nat) (n : Int) (h : IsRd w0 w B A m cap p) (hp : p ≤ 1000000) (hn1 : 1 ≤ n) (hn2 : n ≤ 1000000) :
    Calls Tryd.prog 37 #[.pointer (some ⟨B, 0, none⟩), .int .i64 n] w (PickPost2 w0 w B A m cap p n) :=
  (pick_any w0 w B A m cap p n h hp hn1 hn2).mono fun e w' ⟨x, x0, x1, he, q, hw⟩ => ⟨x, x0, x1, he, by rw [hw]; exact h.next q, by
    rw [hw]
    exact (setCell_grown w B 1 _).trans ⟨rfl, rfl, rfl, Nat.le_refl _, fun _ _ _ => rfl⟩⟩

theorem rd_not_row {w0 w : World} {B : Nat} {A : Option Addr} {m cap p base n : Nat} {v : Value} {xs : List Value} (h : IsRd w0 w B A m cap p) (ho : w.ownsRow base 5 1 v n xs) : v.ownBlock ≠ some B := by
  rcases ho.2 with ⟨rfl, _⟩ | ⟨g, c, cur, rfl, _, hg, _⟩
  · simp [Value.ownBlock]
  · intro e
    simp only [Value.ownBlock, Option.some.injEq] at e
    subst e
    have := hg.symm.trans h.blk
    simp at this
theorem own_past {w0 w w' : World} {B : Nat} {A : Option Addr} {m cap p base n : Nat} {v : Value} {xs : List Value} (h : IsRd w0 w B A m cap p) (ho : w.ownsRow base 5 1 v n xs) (hg : w.grownBy w' (some B)) : w'.ownsRow base 5 1 v n xs :=
  ho.kept hg (.inr (rd_not_row h ho))
theorem IsRd.alloc {w0 w : World} {B : Nat} {A : Option Addr} {m cap p : Nat} (h : IsRd w0 w B A m cap p) (o : Obj) : IsRd w0 (w.alloc o) B A m cap p :=
  ⟨(Below.heap_alloc w o B h.lt).trans h.blk, h.bts, h.old, h.bel.alloc h.bel.size o, h.few⟩
theorem IsRd.grown {w0 w w' : World} {B : Nat} {A : Option Addr} {m cap p base n : Nat} {v : Value} {xs : List Value} (h : IsRd w0 w B A m cap p) (ho : w.ownsRow base 5 1 v n xs) (hb : w0.heap.size ≤ base) (hg : w.grownBy w' v.ownBlock) : IsRd w0 w' B A m cap p :=
  ⟨(hg.block B h.lt (rd_not_row h ho).symm).trans h.blk, h.bts, h.old, h.bel.grown hg h.bel.size (fun k e => Nat.le_trans hb (ho.lt k e).1), h.few⟩

def OpenPost (w : World) (e : Ending) (w' : World) : Prop := ∃ A m cap B, e = .returned (.pointer (some ⟨B, 0, none⟩)) ∧ IsRd w w' B A m cap 0

set_option maxHeartbeats 1000000 in
theorem open_rd (A : Option Addr) (n cap : Nat) (w : World) (hn : n ≤ cap) (hA : BytesAt w A n) :
    Calls Tryd.prog 34 #[.slice A n cap] w (OpenPost w) := by
  by_cases h : 2000 < n
  · have h' : (2000 : Int) < (n : Int) := by omega
    have hc : (2000 : Int) ≤ (cap : Int) := by omega
    go_enter Tryd.func34, Tryd.ntmps34
    go_wp2
    go_ret
    refine ⟨A, 2000, cap, w.heap.size, rfl, ?_⟩
    refine ⟨heap_alloc_new w _, fun h0 => ?_, Nat.le_refl _, (Below.refl _ _).alloc (Nat.le_refl _) _, Nat.le_refl _⟩
    obtain ⟨b, off, he, hb, hc⟩ := hA (by omega)
    exact ⟨b, off, he, hb, fun j hj => hc j (by omega)⟩
  · have h' : ¬ (2000 : Int) < (n : Int) := by omega
    go_enter Tryd.func34, Tryd.ntmps34
    go_wp2
    go_ret
    exact ⟨A, n, cap, w.heap.size, rfl, heap_alloc_new w _, hA, Nat.le_refl _, (Below.refl _ _).alloc (Nat.le_refl _) _, by omega⟩

end Go.Proofs.YtehmaacbmkfedaaDoor
