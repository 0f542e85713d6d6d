/-
  The reader of drawn bytes, and what it draws: texts, rows, cells, masks.
-/
import Derived.Test.YtimpdjlgfjehcaaMA
import Derived.BigQuiet
import Derived.Deep.QuietTactic
import Derived.Laws.OwnMore
import Derived.OwnWalk
import Derived.Maps.AppendAt
import Derived.WalkSmall
import Derived.IntWalk
import Derived.Deep.DeepCutAuto
import Derived.Deep.CutBlock
import Derived.Deep.LoopGhost
import Derived.Laws.Bits64
import Derived.Lib.SlBytesConst

namespace Go.Proofs.Ytimpdjlgfjehcaa
open Go.RowKit

set_option maxRecDepth 100000
def cellsOf (l : List UInt8) : List Value := l.map fun c => Value.int .u8 (c.toNat : Int)
theorem cellsOf_len (l : List UInt8) : (cellsOf l).length = l.length := by simp [cellsOf]
theorem cellsOf_app (l m : List UInt8) : cellsOf (l ++ m) = cellsOf l ++ cellsOf m := by simp [cellsOf]
theorem Try.info5 : (Try.prog.info? 5).map (fun i => (i.zero, i.size, i.bytes)) = some (some (.int .u8 0), 1, 1) := by kernel_rfl
theorem strOf_nums (l : List UInt8) : strOfNums (l.map fun c => (c.toNat : Int)) = strOf l := by
  unfold strOfNums strOf
  congr 2
  rw [List.map_map]
  conv => rhs; rw [← List.map_id l]
  apply List.map_congr_left
  intro c _
  simp
theorem conv_own {w : World} {base n : Nat} {v : Value} {l : List UInt8} (h : w.ownsRow base 5 1 v n (cellsOf l)) :
    (convert 22 9 v).run Try.prog w = .ok (.string (strOf l)) w := by
  have hl := h.1
  rw [cellsOf_len] at hl
  have hc := fun g hg => h.cells (g := g) hg
  rcases h.2 with ⟨rfl, rfl⟩ | ⟨g, cap, cur, rfl, _⟩
  · have : l = [] := List.eq_nil_of_length_eq_zero (by omega)
    subst this
    exact run_convert_bytes_nil w 22 5 Try.underlying22 Try.underlying5 0 0 9 Try.underlying9
  · have hr := run_convert_bytes_arg (P := Try.prog) w 22 5 Try.underlying22 Try.underlying5 g 0 n cap (l.map fun c => (c.toNat : Int)) (by simp; omega) (fun i hi => by
      have hh := hc g rfl i (.int .u8 ((l[i]'(by omega)).toNat : Int)) (by simp [cellsOf, List.getElem?_map, List.getElem?_eq_getElem (show i < l.length by omega)])
      have hplain : (⟨g, 0, none⟩ : Addr).add i = ⟨g, 0 + i, none⟩ := by unfold Addr.add; split <;> simp_all
      rw [hplain] at hh
      rw [hh]
      simp [List.getD, List.getElem?_map, List.getElem?_eq_getElem (show i < l.length by omega)]) 9 Try.underlying9
    rw [hr, strOf_nums]
theorem own_next {w : World} {base n : Nat} {v : Value} {l m : List UInt8} {news : List Value} (h : w.ownsRow base 5 1 v n (cellsOf l ++ news)) (hn : news = cellsOf m) (hk : n = l.length + m.length) :
    w.ownsRow base 5 1 v (l ++ m).length (cellsOf (l ++ m)) := by
  rw [cellsOf_app, List.length_append, ← hk, ← hn]
  exact h
theorem own_form {W : World} {base n : Nat} {v : Value} {xs : List Value} (h : W.ownsRow base 5 1 v n xs) (hn : 0 < n) : ∃ g cap, v = .slice (some ⟨g, 0, none⟩) n cap := by
  rcases h.2 with ⟨_, h0⟩ | ⟨g, cap, _, rfl, _⟩
  · omega
  · exact ⟨g, cap, rfl⟩
theorem byte_of (x : Int) (h0 : 0 ≤ x) (h1 : x < 256) : ∃ c : UInt8, x = (c.toNat : Int) :=
  ⟨UInt8.ofNat x.toNat, by simp; omega⟩

theorem own_shape {w : World} {base n : Nat} {v : Value} {xs : List Value} (h : w.ownsRow base 5 1 v n xs) : ∃ a c, v = .slice a n c := by
  rcases h.2 with ⟨rfl, rfl⟩ | ⟨g, cap, cur, rfl, _⟩
  · exact ⟨_, _, rfl⟩
  · exact ⟨_, _, rfl⟩


end Go.Proofs.Ytimpdjlgfjehcaa

namespace Go.Proofs.Ytimpdjlgfjehcaa
open Go.RowKit

/-- The slice address A leads to n bytes. -/
def BytesAt (w : World) (A : Option Addr) (n : Nat) : Prop :=
  0 < n → ∃ b off, A = some ⟨b, off, none⟩ ∧ b < w.heap.size ∧ ∀ j, j < n → ∃ z : Int, 0 ≤ z ∧ z ≤ 255 ∧ w.cell? ⟨b, off + j, none⟩ = some (.int .u8 z)

structure IsRd (w0 w : World) (B : Nat) (A : Option Addr) (m cap p : Nat) : Prop where
  blk : w.heap[B]? = some (.cells #[.slice A m cap, .int .i64 (p : Int)] 60 (0, 0))
  bts : BytesAt w0 A m
  old : w0.heap.size ≤ B
  bel : Below w0.heap.size w0 w
  few : m ≤ 2000

theorem IsRd.c0 {w0 w : World} {B : Nat} {A : Option Addr} {m cap p : Nat} (h : IsRd w0 w B A m cap p) : w.cell? ⟨B, 0, none⟩ = some (.slice A m cap) := by simp [World.cell?, h.blk]
theorem IsRd.c1 {w0 w : World} {B : Nat} {A : Option Addr} {m cap p : Nat} (h : IsRd w0 w B A m cap p) : w.cell? ⟨B, 1, none⟩ = some (.int .i64 (p : Int)) := by simp [World.cell?, h.blk]
theorem IsRd.f1 {w0 w : World} {B : Nat} {A : Option Addr} {m cap p : Nat} (h : IsRd w0 w B A m cap p) : w.frozen? ⟨B, 1, none⟩ = false := by simp [World.frozen?, h.blk]
theorem IsRd.lt {w0 w : World} {B : Nat} {A : Option Addr} {m cap p : Nat} (h : IsRd w0 w B A m cap p) : B < w.heap.size := (Array.getElem?_eq_some_iff.1 h.blk).1

theorem bits_xor_i64_nat (a b : Nat) (ha : a < 4294967296) (hb : b < 4294967296) : bits .xor .i64 (a : Int) (b : Int) = ((a ^^^ b : Nat) : Int) ∧ a ^^^ b < 4294967296 := by
  have hx : a ^^^ b < 2 ^ 32 := Nat.xor_lt_two_pow (by omega) (by omega)
  have h1 : (BitVec.ofInt IntKind.i64.bits (a : Int)).toNat = a := by
    simp [IntKind.bits]; omega
  have h2 : (BitVec.ofInt IntKind.i64.bits (b : Int)).toNat = b := by
    simp [IntKind.bits]; omega
  refine ⟨?_, by omega⟩
  unfold bits
  simp only [BitVec.toNat_xor, h1, h2]
  exact IntWalk.i64_in _ (by omega)

def PickPost (w : World) (B p : Nat) (n : Int) (e : Ending) (w' : World) : Prop :=
  ∃ x : Int, 0 ≤ x ∧ x < n ∧ e = .returned (.int .i64 x) ∧ ∃ q, w' = (w.setCell ⟨B, 1, none⟩ (.int .i64 ((p : Int) + 1))).drewN q

theorem IsRd.next {w0 w : World} {B : Nat} {A : Option Addr} {m cap p : Nat} (h : IsRd w0 w B A m cap p) (q : Nat) : IsRd w0 ((w.setCell ⟨B, 1, none⟩ (.int .i64 ((p : Int) + 1))).drewN q) B A m cap (p + 1) := by
  refine ⟨?_, h.bts, h.old, below_drewN (h.bel.setCell (p := ⟨B, 1, none⟩) h.old _) q, h.few⟩
  show (w.setCell ⟨B, 1, none⟩ (.int .i64 ((p : Int) + 1))).heap[B]? = _
  have hb := h.blk
  simp [World.setCell, Array.getElem?_modify, hb]

set_option maxHeartbeats 1000000 in
theorem pick_any (w0 w : World) (B : Nat) (A : Option Addr) (m cap p : Nat) (n : Int) (h : IsRd w0 w B A m cap p) (hp : p ≤ 1000000) (hn1 : 1 ≤ n) (hn2 : n ≤ 1000000) :
    Calls Try.prog 23 #[.pointer (some ⟨B, 0, none⟩), .int .i64 n] w (PickPost w B p n) := by
  have hc0 := h.c0
  have hc1 := h.c1
  have hf1 := h.f1
  have hB := h.lt
  have hm := h.few
  have hn1' : ¬ n < 1 := by omega
  by_cases h0 : m = 0
  · have hm0 : ((m : Int) == 0) = true := by simp [h0]
    go_enter Try.func23, Try.ntmps23
    go_wp2
    go_ret
    exact ⟨0, by omega, by omega, rfl, 0, rfl⟩
  · have hm0 : ((m : Int) == 0) = false := by simp [h0]
    obtain ⟨b, off, rfl, hb, hcs⟩ := h.bts (by omega)
    have hbB : b < B := Nat.lt_of_lt_of_le hb h.old
    have hcs' : ∀ j, j < m → ∃ z : Int, 0 ≤ z ∧ z ≤ 255 ∧ w.cell? ⟨b, off + j, none⟩ = some (.int .u8 z) := fun j hj => by
      obtain ⟨z, z0, z1, hz⟩ := hcs j hj
      exact ⟨z, z0, z1, (h.bel.cell (p := ⟨b, off + j, none⟩) hb).trans hz⟩
    by_cases hk : p < m
    · obtain ⟨z, z0, z1, hz⟩ := hcs' p hk
      have hz2 : (w.setCell ⟨B, 1, none⟩ (.int .i64 ((p : Int) + 1))).cell? ⟨b, off + p, none⟩ = some (.int .u8 z) := by
        rw [World.cell?_setCell_other _ _ _ _ (by intro e; injection e with e1; omega)]
        exact hz
      have r0 : 0 ≤ z % n := Int.emod_nonneg _ (by omega)
      have r1 : z % n < n := Int.emod_lt_of_pos _ (by omega)
      clear hcs hcs' h0
      go_enter Try.func23, Try.ntmps23
      go_wp2_with fail
      go_ret
      exact ⟨z % n, r0, r1, rfl, 0, rfl⟩
    · obtain ⟨i1, hi1⟩ : ∃ i1, i1 = p % m := ⟨_, rfl⟩
      obtain ⟨i2, hi2⟩ : ∃ i2, i2 = (p * 7 + 3) % m := ⟨_, rfl⟩
      have l1 : i1 < m := by rw [hi1]; exact Nat.mod_lt _ (by omega)
      have l2 : i2 < m := by rw [hi2]; exact Nat.mod_lt _ (by omega)
      obtain ⟨z1, a0, a1, hz1⟩ := hcs' i1 l1
      obtain ⟨z2, b0, b1, hz2⟩ := hcs' i2 l2
      have hw1 : (w.setCell ⟨B, 1, none⟩ (.int .i64 ((p : Int) + 1))).cell? ⟨b, off + i1, none⟩ = some (.int .u8 z1) := by
        rw [World.cell?_setCell_other _ _ _ _ (by intro e; injection e with e1; omega)]
        exact hz1
      have hw2 : (w.setCell ⟨B, 1, none⟩ (.int .i64 ((p : Int) + 1))).cell? ⟨b, off + i2, none⟩ = some (.int .u8 z2) := by
        rw [World.cell?_setCell_other _ _ _ _ (by intro e; injection e with e1; omega)]
        exact hz2
      obtain ⟨d, hd⟩ : ∃ d, d = p / m := ⟨_, rfl⟩
      have hdp : d ≤ p := by rw [hd]; exact Nat.div_le_self _ _
      have t1 : (p : Int).tmod (m : Int) = (i1 : Int) := by rw [hi1, Int.tmod_eq_emod_of_nonneg (by omega)]; rfl
      have t2 : ((p : Int) * 7 + 3).tmod (m : Int) = (i2 : Int) := by rw [hi2, Int.tmod_eq_emod_of_nonneg (by omega)]; rfl
      have t3 : (p : Int).tdiv (m : Int) = (d : Int) := by rw [hd, Int.tdiv_eq_ediv_of_nonneg (by omega)]; rfl
      have e1 : IntKind.i64.wrap ((p : Int) * 7) = (p : Int) * 7 := IntWalk.i64_in _ (by omega)
      have e2 : IntKind.i64.wrap ((p : Int) * 7 + 3) = (p : Int) * 7 + 3 := IntWalk.i64_in _ (by omega)
      have e3 : IntKind.i64.wrap (z1 * 131) = z1 * 131 := IntWalk.i64_in _ (by omega)
      have e4 : IntKind.i64.wrap (z2 * 1117) = z2 * 1117 := IntWalk.i64_in _ (by omega)
      have e5 : IntKind.i64.wrap (z1 * 131 + z2 * 1117) = z1 * 131 + z2 * 1117 := IntWalk.i64_in _ (by omega)
      have e6 : IntKind.i64.wrap ((p : Int) * 29) = (p : Int) * 29 := IntWalk.i64_in _ (by omega)
      have e7 : IntKind.i64.wrap (z1 * 131 + z2 * 1117 + (p : Int) * 29) = z1 * 131 + z2 * 1117 + (p : Int) * 29 := IntWalk.i64_in _ (by omega)
      have e8 : IntKind.i64.wrap (d : Int) = (d : Int) := IntWalk.i64_in _ (by omega)
      have e9 : IntKind.i64.wrap ((d : Int) * 53) = (d : Int) * 53 := IntWalk.i64_in _ (by omega)
      obtain ⟨y, hy⟩ : ∃ y, y = z1 * 131 + z2 * 1117 + (p : Int) * 29 + (d : Int) * 53 := ⟨_, rfl⟩
      have hy0 : 0 ≤ y := by omega
      have hy1 : y ≤ 1000000000 := by omega
      have e10 : IntKind.i64.wrap (z1 * 131 + z2 * 1117 + (p : Int) * 29 + (d : Int) * 53) = y := by rw [← hy]; exact IntWalk.i64_in _ (by omega)
      have l1' : (i1 : Int) < (m : Int) := by omega
      have l2' : (i2 : Int) < (m : Int) := by omega
      clear hcs hcs' h0 hi1 hi2 hd hy hz1 hz2
      go_enter Try.func23, Try.ntmps23
      go_wp2_with fail
      go_quiet (fail)
      clear e1 e2 e3 e4 e5 e6 e7 e8 e9 e10 t1 t2 t3
      obtain ⟨x, hx, hx0⟩ : ∃ x, bits .xor .i64 y (y / 64) = x ∧ 0 ≤ x := by
        obtain ⟨a, ha⟩ : ∃ a : Nat, y = (a : Int) := ⟨y.toNat, by omega⟩
        have hq : y / 64 = ((a / 64 : Nat) : Int) := by rw [ha]; rfl
        have hb := (bits_xor_i64_nat a (a / 64) (by omega) (by omega)).1
        refine ⟨_, rfl, ?_⟩
        rw [hq, ha, hb]
        omega
      have r0 : 0 ≤ x % n := Int.emod_nonneg _ (by omega)
      have r1 : x % n < n := Int.emod_lt_of_pos _ (by omega)
      go_wp2_with fail
      go_ret
      exact ⟨x % n, r0, r1, rfl, nq, rfl⟩

theorem setCell_grown (w : World) (b i : Nat) (v : Value) : w.grownBy (w.setCell ⟨b, i, none⟩ v) (some b) :=
  ⟨rfl, rfl, rfl, by simp [World.setCell], fun k _ hk => Below.heap_setCell _ _ _ k (fun e => hk (by rw [e]))⟩

def PickPost2 (w0 w : World) (B : Nat) (A : Option Addr) (m cap p : Nat) (n : Int) (e : Ending) (w' : World) : Prop :=
  ∃ x : Int, 0 ≤ x ∧ x < n ∧ e = .returned (.int .i64 x) ∧ IsRd w0 w' B A m cap (p + 1) ∧ w.grownBy w' (some B)
theorem pick_rd (w0 w : World) (B : Nat) (A : Option Addr) (m cap p : Nat) (n : Int) (h : IsRd w0 w B A m cap p) (hp : p ≤ 1000000) (hn1 : 1 ≤ n) (hn2 : n ≤ 1000000) :
    Calls Try.prog 23 #[.pointer (some ⟨B, 0, none⟩), .int .i64 n] w (PickPost2 w0 w B A m cap p n) :=
  (pick_any w0 w B A m cap p n h hp hn1 hn2).mono fun e w' ⟨x, x0, x1, he, q, hw⟩ => ⟨x, x0, x1, he, by rw [hw]; exact h.next q, by
    rw [hw]
    exact (setCell_grown w B 1 _).trans ⟨rfl, rfl, rfl, Nat.le_refl _, fun _ _ _ => rfl⟩⟩

theorem rd_not_row {w0 w : World} {B : Nat} {A : Option Addr} {m cap p base n : Nat} {v : Value} {xs : List Value} (h : IsRd w0 w B A m cap p) (ho : w.ownsRow base 5 1 v n xs) : v.ownBlock ≠ some B := by
  rcases ho.2 with ⟨rfl, _⟩ | ⟨g, c, cur, rfl, _, hg, _⟩
  · simp [Value.ownBlock]
  · intro e
    simp only [Value.ownBlock, Option.some.injEq] at e
    subst e
    have := hg.symm.trans h.blk
    simp at this
theorem own_past {w0 w w' : World} {B : Nat} {A : Option Addr} {m cap p base n : Nat} {v : Value} {xs : List Value} (h : IsRd w0 w B A m cap p) (ho : w.ownsRow base 5 1 v n xs) (hg : w.grownBy w' (some B)) : w'.ownsRow base 5 1 v n xs :=
  ho.kept hg (.inr (rd_not_row h ho))
theorem IsRd.alloc {w0 w : World} {B : Nat} {A : Option Addr} {m cap p : Nat} (h : IsRd w0 w B A m cap p) (o : Obj) : IsRd w0 (w.alloc o) B A m cap p :=
  ⟨(Below.heap_alloc w o B h.lt).trans h.blk, h.bts, h.old, h.bel.alloc h.bel.size o, h.few⟩
theorem IsRd.grown {w0 w w' : World} {B : Nat} {A : Option Addr} {m cap p base n : Nat} {v : Value} {xs : List Value} (h : IsRd w0 w B A m cap p) (ho : w.ownsRow base 5 1 v n xs) (hb : w0.heap.size ≤ base) (hg : w.grownBy w' v.ownBlock) : IsRd w0 w' B A m cap p :=
  ⟨(hg.block B h.lt (rd_not_row h ho).symm).trans h.blk, h.bts, h.old, h.bel.grown hg h.bel.size (fun k e => Nat.le_trans hb (ho.lt k e).1), h.few⟩

def OpenPost (w : World) (e : Ending) (w' : World) : Prop := ∃ A m cap B, e = .returned (.pointer (some ⟨B, 0, none⟩)) ∧ IsRd w w' B A m cap 0

set_option maxHeartbeats 1000000 in
theorem open_rd (A : Option Addr) (n cap : Nat) (w : World) (hn : n ≤ cap) (hA : BytesAt w A n) :
    Calls Try.prog 20 #[.slice A n cap] w (OpenPost w) := by
  by_cases h : 2000 < n
  · have h' : (2000 : Int) < (n : Int) := by omega
    have hc : (2000 : Int) ≤ (cap : Int) := by omega
    go_enter Try.func20, Try.ntmps20
    go_wp2
    go_ret
    refine ⟨A, 2000, cap, w.heap.size, rfl, ?_⟩
    refine ⟨heap_alloc_new w _, fun h0 => ?_, Nat.le_refl _, (Below.refl _ _).alloc (Nat.le_refl _) _, Nat.le_refl _⟩
    obtain ⟨b, off, he, hb, hc⟩ := hA (by omega)
    exact ⟨b, off, he, hb, fun j hj => hc j (by omega)⟩
  · have h' : ¬ (2000 : Int) < (n : Int) := by omega
    go_enter Try.func20, Try.ntmps20
    go_wp2
    go_ret
    exact ⟨A, n, cap, w.heap.size, rfl, heap_alloc_new w _, hA, Nat.le_refl _, (Below.refl _ _).alloc (Nat.le_refl _) _, by omega⟩

end Go.Proofs.Ytimpdjlgfjehcaa

namespace Go.Proofs.Ytimpdjlgfjehcaa
open Go.RowKit

theorem u8_bd (c : UInt8) : 0 ≤ (c.toNat : Int) ∧ (c.toNat : Int) ≤ 255 := by
  have := c.toNat_lt
  omega

theorem grown_more {w wr w' : World} {B n : Nat} {v : Value} {xs : List Value} (h : w.grownBy wr (some B)) (ho : wr.ownsRow w.heap.size 5 1 v n xs) (hg : wr.grownBy w' v.ownBlock) : w.grownBy w' (some B) :=
  ⟨hg.os.trans h.os, hg.tape.trans h.tape, hg.output.trans h.output, Nat.le_trans h.size hg.size, fun k hk hne =>
    (hg.block k (Nat.lt_of_lt_of_le hk h.size) (fun e => by have := (ho.lt k e.symm).1; omega)).trans (h.block k hk hne)⟩

def TextPost2 (w0 w : World) (B : Nat) (A : Option Addr) (m cap p n : Nat) (e : Ending) (w' : World) : Prop :=
  ∃ (s : ByteArray) (p' : Nat), e = .returned (.string s) ∧ s.size ≤ n ∧ IsRd w0 w' B A m cap p' ∧ p' ≤ p + 2 + 2 * n ∧ w.grownBy w' (some B)

set_option maxRecDepth 100000 in
set_option maxHeartbeats 2000000 in
theorem text_gr (w0 w : World) (B : Nat) (A : Option Addr) (m cap p n : Nat) (h : IsRd w0 w B A m cap p) (hp : p ≤ 500000) (hn : n ≤ 1000) :
    Calls Try.prog 40 #[.pointer (some ⟨B, 0, none⟩), .int .i64 n] w (TextPost2 w0 w B A m cap p n) := by
  obtain ⟨i0, hi, hz0, hz1, hz2⟩ := info_parts Try.info5
  have hsz0 := h.bel.size
  go_enter Try.func40, Try.ntmps40
  go_wp2_with (go_at_call 23; refine (pick_rd w0 _ B A m cap p ((n : Int) + 1) (h.alloc _) (by omega) (by omega) (by omega)).mono ?_; rintro e w1 ⟨x1, x10, x11, rfl, h1, g1⟩; refine Hid.out ?_)
  refine Lib.hid ?_
  have o1 := own_past (h.alloc _) (World.ownsRow_made (e := 5) (base := w.heap.size) w (size := 1) #[] 0 (Nat.le_refl _) (by decide) rfl) g1
  obtain ⟨many, rfl⟩ : ∃ many : Nat, x1 = (many : Int) := ⟨x1.toNat, by omega⟩
  have hmn : many ≤ n := by omega
  clear x10 x11
  go_wp2_with (go_at_call 23; refine (pick_rd w0 _ B A m cap (p + 1) 4 h1 (by omega) (by omega) (by omega)).mono ?_; rintro e w2 ⟨kd, k0, k4, rfl, h2, g2⟩; refine Hid.out ?_)
  refine Lib.hid ?_
  have o2 := own_past h1 o1 g2
  have s2 : w.heap.size ≤ w2.heap.size := by
    have a := g1.size
    have b := g2.size
    simp at a
    omega
  have G2 := Lib.hid (((World.grownBy_alloc w _ (some B)).trans g1).trans g2)
  clear o1 h1 g1 g2 h
  go_wp2_with fail
  go_loopg [5] many (fun g v wr => ∃ (o : List UInt8) (p' : Nat), g = many - o.length ∧ o.length ≤ many ∧ wr.ownsRow w.heap.size 5 1 v o.length (cellsOf o) ∧ IsRd w0 wr B A m cap p' ∧ p' ≤ p + 2 + 2 * o.length ∧ w.grownBy wr (some B))
  case atStart => exact ⟨[], p + 1 + 1, rfl, Nat.zero_le _, o2, h2, by simp, G2.out⟩
  case round =>
    obtain ⟨o, p', hg, hol, ho, hr, hpp, hG0⟩ := hrel
    have hsr := hG0.size
    have hG := Lib.hid hG0
    clear hG0
    obtain ⟨a, c0, rfl⟩ := own_shape ho
    clear o2 h2 s2 G2
    by_cases hlt : o.length < many
    · have hP := fun (N : Int) (h1 : 1 ≤ N) (h2 : N ≤ 1000000) => pick_rd w0 wr B A m cap p' N hr (by omega) h1 h2
      rcases (show kd = 0 ∨ kd = 1 ∨ kd = 2 ∨ kd = 3 by omega) with rfl | rfl | rfl | rfl
      · go_wp2_with (go_at_call 23; refine (hP 256 (by omega) (by omega)).mono ?_; rintro e w3 ⟨x, x0, x1, rfl, r3, g3⟩; refine Hid.out ?_)
        refine Lib.hid ?_
        have o3 := own_past hr ho g3
        have s3 := g3.size
        have G3 := Lib.hid (hG.out.trans g3)
        obtain ⟨c, rfl⟩ := byte_of x x0 x1
        clear ho hr g3 hP
        go_wp2_with (at_builtin; refine wpList_append_own_at _ rfl _ _ 22 rfl w.heap.size 5 i0 (.int .u8 0) 1 1 Try.underlying22 hi hz0 hz1 hz2 rfl (by decide) _ _ _ rfl (o3.alloc _) ⟨w3.heap.size, 0, none⟩ 1 1 [.int .u8 (c.toNat : Int)] rfl rfl (cell_one_new _ _ _) (by simp [Value.oneCell']) (by unfold maxLen; omega) (by omega) (by simp; omega) ?_)
        intro v' w4 hown' hgrow _ hat
        have R := own_next hown' (m := [c]) rfl rfl
        have D1 := IsRd.grown (r3.alloc _) (o3.alloc _) hsz0 hgrow
        have G4 := Lib.hid (grown_more (G3.out.trans (World.grownBy_alloc _ _ _)) (o3.alloc _) hgrow)
        have S1 := hgrow.size
        simp only [World.size_alloc] at S1
        clear hown' hgrow hat o3 r3
        go_wp2
        go_roundg (many - (o.length + 1))
        case measure => omega
        case rel => exact ⟨o ++ [c], p' + 1, by simp, by simp; omega, R, D1, by simp; omega, G4.out⟩
      · have hP1 := fun (o : Obj) => pick_rd w0 (wr.alloc o) B A m cap p' 7 (hr.alloc o) (by omega) (by omega) (by omega)
        clear hP
        have kc := fun (w : World) (C : Array Value) (n c : Nat) => Lib.run_convert_bytes_const (P := Try.prog) w 22 5 C n c Try.underlying22 Try.underlying5
        go_wp2_with (go_at_call 23; refine (hP1 _).mono ?_; rintro e w3 ⟨x, x0, x1, rfl, r3, g3⟩; refine Hid.out ?_)
        refine Lib.hid ?_
        have o3 := own_past (hr.alloc _) (ho.alloc _) g3
        have s3 := g3.size
        have G3 := Lib.hid ((hG.out.trans (World.grownBy_alloc _ _ _)).trans g3)
        simp only [World.size_alloc] at s3
        have hne : some wr.heap.size ≠ some B := by
          intro e
          have := hr.lt
          cases e
          omega
        have hcell : ∃ c : UInt8, w3.cell? ⟨wr.heap.size, x.toNat, none⟩ = some (.int .u8 (c.toNat : Int)) := by
          obtain ⟨k, rfl⟩ : ∃ k : Nat, x = (k : Int) := ⟨x.toNat, by omega⟩
          have hk : k < 7 := by omega
          rw [World.cell?_of_block (w := wr.alloc (.cells #[.int .u8 97, .int .u8 98, .int .u8 126, .int .u8 48, .int .u8 58, .int .u8 59, .int .u8 61] 5 (7, 8))) (g3.block wr.heap.size (by simp) hne)]
          rcases (show k = 0 ∨ k = 1 ∨ k = 2 ∨ k = 3 ∨ k = 4 ∨ k = 5 ∨ k = 6 by omega) with rfl | rfl | rfl | rfl | rfl | rfl | rfl
          · exact ⟨97, by rw [World.cell?_alloc_mark]; rfl⟩
          · exact ⟨98, by rw [World.cell?_alloc_mark]; rfl⟩
          · exact ⟨126, by rw [World.cell?_alloc_mark]; rfl⟩
          · exact ⟨48, by rw [World.cell?_alloc_mark]; rfl⟩
          · exact ⟨58, by rw [World.cell?_alloc_mark]; rfl⟩
          · exact ⟨59, by rw [World.cell?_alloc_mark]; rfl⟩
          · exact ⟨61, by rw [World.cell?_alloc_mark]; rfl⟩
        obtain ⟨c, hc⟩ := hcell
        obtain ⟨k, rfl⟩ : ∃ k : Nat, x = (k : Int) := ⟨x.toNat, by omega⟩
        rw [Int.toNat_natCast] at hc
        clear ho hr g3 hP1 hne kc
        go_wp2_with (at_builtin; refine wpList_append_own_at _ rfl _ _ 22 rfl w.heap.size 5 i0 (.int .u8 0) 1 1 Try.underlying22 hi hz0 hz1 hz2 rfl (by decide) _ _ _ rfl (o3.alloc _) ⟨w3.heap.size, 0, none⟩ 1 1 [.int .u8 (c.toNat : Int)] rfl rfl (cell_one_new _ _ _) (by simp [Value.oneCell']) (by unfold maxLen; omega) (by omega) (by simp; omega) ?_)
        intro v' w4 hown' hgrow _ hat
        have R := own_next hown' (m := [c]) rfl rfl
        have D1 := IsRd.grown (r3.alloc _) (o3.alloc _) hsz0 hgrow
        have G4 := Lib.hid (grown_more (G3.out.trans (World.grownBy_alloc _ _ _)) (o3.alloc _) hgrow)
        have S1 := hgrow.size
        simp only [World.size_alloc] at S1
        clear hown' hgrow hat o3 r3
        go_wp2
        go_roundg (many - (o.length + 1))
        case measure => omega
        case rel => exact ⟨o ++ [c], p' + 1, by simp, by simp; omega, R, D1, by simp; omega, G4.out⟩
      · go_wp2_with (go_at_call 23; refine (hP 3 (by omega) (by omega)).mono ?_; rintro e w3 ⟨x, x0, x1, rfl, r3, g3⟩; refine Hid.out ?_)
        refine Lib.hid ?_
        have o3 := own_past hr ho g3
        have s3 := g3.size
        have G3 := Lib.hid (hG.out.trans g3)
        obtain ⟨c, hc⟩ := byte_of (97 + x) (by omega) (by omega)
        clear ho hr g3 hP
        have hP2 := pick_rd w0 w3 B A m cap (p' + 1) 6 r3 (by omega) (by omega) (by omega)
        go_wp2_with (go_at_call 23; refine hP2.mono ?_; rintro e w4 ⟨y, y0, y1, rfl, r4, g4⟩; refine Hid.out ?_)
        refine Lib.hid ?_
        have o4 := own_past r3 o3 g4
        have s4 := g4.size
        have G4 := Lib.hid (G3.out.trans g4)
        have hcb := u8_bd c
        clear o3 r3 g4 hP2
        go_wp2_with fail
        go_loopg [5, 9] (y + 1).toNat (fun g v k wr => ∃ (o' : List UInt8) (kk : Int), g = (kk + 1).toNat ∧ -1 ≤ kk ∧ kk ≤ 5 ∧ k = .int .i64 kk ∧ (o'.length : Int) = (o.length : Int) + (y - kk) ∧ o'.length ≤ many ∧ wr.ownsRow w.heap.size 5 1 v o'.length (cellsOf o') ∧ IsRd w0 wr B A m cap (p' + 1 + 1) ∧ w.grownBy wr (some B))
        case atStart => exact ⟨o, y, rfl, by omega, by omega, rfl, by omega, hol, o4, r4, G4.out⟩
        case round =>
          obtain ⟨o', kk, hgk, hk1, hk5, rfl, hlen, hom, ho', hr', hg0⟩ := hrel
          have hs' := hg0.size
          have GG := Lib.hid hg0
          clear hg0
          obtain ⟨a2, c2, rfl⟩ := own_shape ho'
          have HGK := Lib.hid hgk
          have HG := Lib.hid hg
          clear o4 r4 hgk hg hc G3 G4 hG
          by_cases hk0 : 0 ≤ kk
          · by_cases hlt2 : o'.length < many
            · go_wp2_with (at_builtin; refine wpList_append_own_at _ rfl _ _ 22 rfl w.heap.size 5 i0 (.int .u8 0) 1 1 Try.underlying22 hi hz0 hz1 hz2 rfl (by decide) _ _ _ rfl (ho'.alloc _) ⟨wr.heap.size, 0, none⟩ 1 1 [.int .u8 (c.toNat : Int)] rfl rfl (cell_one_new _ _ _) (by simp [Value.oneCell']) (by unfold maxLen; omega) (by omega) (by simp; omega) ?_)
              intro v' w5 hown' hgrow _ hat
              have R := own_next hown' (m := [c]) rfl rfl
              have D1 := IsRd.grown (hr'.alloc _) (ho'.alloc _) hsz0 hgrow
              have G5 := Lib.hid (grown_more (GG.out.trans (World.grownBy_alloc _ _ _)) (ho'.alloc _) hgrow)
              have S1 := hgrow.size
              simp only [World.size_alloc] at S1
              clear hown' hgrow hat ho' hr'
              go_wp2
              go_roundg kk.toNat
              case measure => have := HGK.out; omega
              case rel => exact ⟨o' ++ [c], kk - 1, by omega, by omega, by omega, by go_num, by simp; omega, by simp; omega, R, D1, G5.out⟩
            · go_wp2_with fail
              go_roundg (many - o'.length)
              case measure => have := HG.out; omega
              case rel => exact ⟨o', p' + 1 + 1, rfl, hom, ho', hr', by omega, GG.out⟩
          · go_wp2_with fail
            go_roundg (many - o'.length)
            case measure => have := HG.out; omega
            case rel => exact ⟨o', p' + 1 + 1, rfl, hom, ho', hr', by omega, GG.out⟩
      · go_wp2_with (go_at_call 23; refine (hP 2 (by omega) (by omega)).mono ?_; rintro e w3 ⟨x, x0, x1, rfl, r3, g3⟩; refine Hid.out ?_)
        refine Lib.hid ?_
        have o3 := own_past hr ho g3
        have s3 := g3.size
        have G3 := Lib.hid (hG.out.trans g3)
        obtain ⟨c, hc⟩ := byte_of (x * 97) (by omega) (by omega)
        have hcb := u8_bd c
        clear ho hr g3 hP
        go_wp2_with (at_builtin; refine wpList_append_own_at _ rfl _ _ 22 rfl w.heap.size 5 i0 (.int .u8 0) 1 1 Try.underlying22 hi hz0 hz1 hz2 rfl (by decide) _ _ _ rfl (o3.alloc _) ⟨w3.heap.size, 0, none⟩ 1 1 [.int .u8 (c.toNat : Int)] rfl rfl (cell_one_new _ _ _) (by simp [Value.oneCell']) (by unfold maxLen; omega) (by omega) (by simp; omega) ?_)
        intro v' w4 hown' hgrow _ hat
        have R := own_next hown' (m := [c]) rfl rfl
        have D1 := IsRd.grown (r3.alloc _) (o3.alloc _) hsz0 hgrow
        have G4 := Lib.hid (grown_more (G3.out.trans (World.grownBy_alloc _ _ _)) (o3.alloc _) hgrow)
        have S1 := hgrow.size
        simp only [World.size_alloc] at S1
        clear hown' hgrow hat o3 r3
        go_wp2
        go_roundg (many - (o.length + 1))
        case measure => omega
        case rel => exact ⟨o ++ [c], p' + 1, by simp, by simp; omega, R, D1, by simp; omega, G4.out⟩
    · have hcv := conv_own ho
      have hsz := strOf_size o
      go_wp2_with fail
      go_ret
      exact ⟨strOf o, p', rfl, by omega, hr, by omega, hG.out⟩

end Go.Proofs.Ytimpdjlgfjehcaa

namespace Go.Proofs.Ytimpdjlgfjehcaa
open Go.RowKit

theorem half_odd (m q o : Nat) (h : m * (2 * q + 1) + o ≤ 1000) : (m + m) * q + (o + m) ≤ 1000 := by
  rw [Nat.mul_add, Nat.mul_one, ← Nat.mul_assoc, Nat.mul_two] at h
  omega
theorem half_even (m q o : Nat) (h : m * (2 * q) + o ≤ 1000) : (m + m) * q + o ≤ 1000 := by
  rw [← Nat.mul_assoc, Nat.mul_two] at h
  omega
theorem le_of_mul (m k o : Nat) (hk : 1 ≤ k) (h : m * k + o ≤ 1000) : m ≤ 1000 ∧ o ≤ 1000 := by
  have := Nat.le_mul_of_pos_right m hk
  omega

set_option maxHeartbeats 1000000 in
theorem many_any (l : List UInt8) (n : Nat) (w : World) (hn : l.length * n ≤ 1000) (hn2 : n ≤ 1000) :
    Calls Try.prog 41 #[.string (strOf l), .int .i64 n] w fun r w' => (∃ t : ByteArray, r = .returned (.string t) ∧ t.size ≤ 1000) ∧ w' = w := by
  go_enter Try.func41, Try.ntmps41
  go_wp2
  go_loop [0, 1, 5] (fun s i out => ∃ (l o : List UInt8) (k : Nat), s = .string (strOf l) ∧ i = .int .i64 k ∧ out = .string (strOf o) ∧ k ≤ 1000 ∧ l.length * k + o.length ≤ 1000) (fun _ i _ => (intOf i).toNat)
  case atStart => exact ⟨l, [], n, rfl, rfl, rfl, hn2, by simpa using hn⟩
  case round =>
    obtain ⟨l, o, k, rfl, rfl, rfl, hk, hb⟩ := hrel
    clear hn hn2
    by_cases h0 : k = 0
    · subst h0
      have hsz := strOf_size o
      go_wp2
      go_ret
      exact ⟨⟨strOf o, rfl, by rw [strOf_size]; omega⟩, rfl⟩
    · have hbd := le_of_mul _ _ _ (by omega) hb
      have a1 := add_strs Try.prog o l (by omega)
      have a2 := add_strs Try.prog l l (by omega)
      have hpos : (0 : Int) < (k : Int) := by omega
      obtain ⟨q, hq⟩ : ∃ q, q = k / 2 := ⟨_, rfl⟩
      have hdv : (k : Int) / 2 = (q : Int) := by omega
      have htd : ((k : Int).tdiv 2) = (q : Int) := by rw [Int.tdiv_eq_ediv_of_nonneg (by omega)]; exact hdv
      have hqw := IntWalk.i64_in (q : Int) (by omega)
      by_cases hm : k % 2 = 1
      · have htm : ((k : Int).tmod 2) = 1 := by rw [Int.tmod_eq_emod_of_nonneg (by omega)]; omega
        have hmd : ((k : Int) % 2) = 1 := by omega
        have hnx := half_odd l.length q o.length (by rw [show 2 * q + 1 = k by omega]; exact hb)
        have hlt : q < k := by omega
        have hqk : q ≤ 1000 := by omega
        have HQ := Lib.hid (show q ≤ 1000 ∧ q < k ∧ (l.length + l.length) * q + (o.length + l.length) ≤ 1000 from ⟨hqk, hlt, hnx⟩)
        clear hq hb hnx hm
        go_wp2
        all_goals
          go_round
          case rel => exact ⟨l ++ l, o ++ l, q, rfl, by go_num, rfl, HQ.out.1, by simpa using HQ.out.2.2⟩
          case measure => have := HQ.out.2.1; simp [intOf, *]
      · have htm : ((k : Int).tmod 2) = 0 := by rw [Int.tmod_eq_emod_of_nonneg (by omega)]; omega
        have hmd : ((k : Int) % 2) = 0 := by omega
        have hnx := half_even l.length q o.length (by rw [show 2 * q = k by omega]; exact hb)
        have hlt : q < k := by omega
        have hqk : q ≤ 1000 := by omega
        have HQ := Lib.hid (show q ≤ 1000 ∧ q < k ∧ (l.length + l.length) * q + o.length ≤ 1000 from ⟨hqk, hlt, hnx⟩)
        clear hq hb hnx hm
        go_wp2
        all_goals
          go_round
          case rel => exact ⟨l ++ l, o, q, rfl, by go_num, rfl, HQ.out.1, by simpa using HQ.out.2.2⟩
          case measure => have := HQ.out.2.1; simp [intOf, *]

end Go.Proofs.Ytimpdjlgfjehcaa

namespace Go.Proofs.Ytimpdjlgfjehcaa
open Go.RowKit

def NumPost (w0 w : World) (B : Nat) (A : Option Addr) (m cap p : Nat) (lo hi : Int) (n : Nat) (e : Ending) (w' : World) : Prop :=
  ∃ (x : Int) (p' : Nat), e = .returned (.int .i64 x) ∧ lo ≤ x ∧ x ≤ hi ∧ IsRd w0 w' B A m cap p' ∧ p' ≤ p + n ∧ w.grownBy w' (some B)

theorem lit3 (W w2 : World) (B : Nat) (a b c : Int) (hB : B < W.heap.size) (g : (W.alloc (.cells #[.int .i64 a, .int .i64 b, .int .i64 c] 3)).grownBy w2 (some B)) (k : Nat) (hk : k < 3) :
    ∃ y : Int, (y = a ∨ y = b ∨ y = c) ∧ w2.cell? ⟨W.heap.size, k, none⟩ = some (.int .i64 y) := by
  rw [World.cell?_of_block (w := W.alloc (.cells #[.int .i64 a, .int .i64 b, .int .i64 c] 3)) (g.block W.heap.size (by simp) (fun e => by injection e with e; omega))]
  rcases (show k = 0 ∨ k = 1 ∨ k = 2 by omega) with rfl | rfl | rfl
  · exact ⟨a, .inl rfl, by rw [World.cell?_alloc_mark]; rfl⟩
  · exact ⟨b, .inr (.inl rfl), by rw [World.cell?_alloc_mark]; rfl⟩
  · exact ⟨c, .inr (.inr rfl), by rw [World.cell?_alloc_mark]; rfl⟩

set_option maxRecDepth 100000 in
set_option maxHeartbeats 1000000 in
theorem cell_gr (w0 w : World) (B : Nat) (A : Option Addr) (m cap p : Nat) (h : IsRd w0 w B A m cap p) (hp : p ≤ 400000) :
    Calls Try.prog 30 #[.pointer (some ⟨B, 0, none⟩)] w (NumPost w0 w B A m cap p (-1) 64 2) := by
  have hK := pick_rd w0 w B A m cap p 10 h (by omega) (by omega) (by omega)
  clear h
  go_enter Try.func30, Try.ntmps30
  go_wp2_with (go_at_call 23; refine hK.mono ?_; rintro e w1 ⟨x, x0, x1, rfl, h1, g1⟩; refine Hid.out ?_)
  refine Lib.hid ?_
  clear hK
  by_cases hx : x = 0
  · subst hx
    have hK := fun o => pick_rd w0 (w1.alloc o) B A m cap (p + 1) 3 (h1.alloc o) (by omega) (by omega) (by omega)
    have hB := h1.lt
    go_wp2_with (go_at_call 23; refine (hK _).mono ?_; rintro e w2 ⟨y, y0, y1, rfl, h2, g2⟩; refine Hid.out ?_)
    refine Lib.hid ?_
    obtain ⟨k, rfl⟩ : ∃ k : Nat, y = (k : Int) := ⟨y.toNat, by omega⟩
    obtain ⟨z, hz, hc⟩ := lit3 w1 w2 B (-1) 64 63 hB g2 k (by omega)
    have g3 := (g1.trans (World.grownBy_alloc w1 _ (some B))).trans g2
    clear hK g1 g2 h1
    go_wp2_with fail
    go_ret
    exact ⟨z, _, rfl, by omega, by omega, h2, by omega, g3⟩
  · have hx' : (x == 0) = false := by simpa using hx
    have hK := pick_rd w0 w1 B A m cap (p + 1) 14 h1 (by omega) (by omega) (by omega)
    go_wp2_with (go_at_call 23; refine hK.mono ?_; rintro e w2 ⟨y, y0, y1, rfl, h2, g2⟩)
    go_ret
    exact ⟨y, _, rfl, by omega, by omega, h2, by omega, g1.trans g2⟩

def TxPost (w0 w : World) (B : Nat) (A : Option Addr) (m cap p n : Nat) (e : Ending) (w' : World) : Prop :=
  ∃ (s : ByteArray) (p' : Nat), e = .returned (.string s) ∧ s.size ≤ 1000 ∧ IsRd w0 w' B A m cap p' ∧ p' ≤ p + n ∧ w.grownBy w' (some B)

set_option maxRecDepth 100000 in
set_option maxHeartbeats 1000000 in
theorem cells_gr (w0 w : World) (B : Nat) (A : Option Addr) (m cap p : Nat) (h : IsRd w0 w B A m cap p) (hp : p ≤ 400000) :
    Calls Try.prog 31 #[.pointer (some ⟨B, 0, none⟩)] w (TxPost w0 w B A m cap p 40) := by
  have hK := pick_rd w0 w B A m cap p 20 h (by omega) (by omega) (by omega)
  clear h
  go_enter Try.func31, Try.ntmps31
  go_wp2_with (go_at_call 23; refine hK.mono ?_; rintro e w1 ⟨x, x0, x1, rfl, h1, g1⟩; refine Hid.out ?_)
  refine Lib.hid ?_
  clear hK
  by_cases hx : x = 0
  · subst hx
    have hK := pick_rd w0 w1 B A m cap (p + 1) 2 h1 (by omega) (by omega) (by omega)
    go_wp2_with (go_at_call 23; refine hK.mono ?_; rintro e w2 ⟨y, y0, y1, rfl, h2, g2⟩; refine Hid.out ?_)
    refine Lib.hid ?_
    obtain ⟨k, rfl⟩ : ∃ k : Nat, y = (k : Int) := ⟨y.toNat, by omega⟩
    have hw := IntWalk.i64_in (200 + (k : Int)) (by omega)
    have hM : ∀ w, Calls Try.prog 41 #[.string ⟨#[118]⟩, .int .i64 (200 + (k : Int))] w fun r w' => (∃ t : ByteArray, r = .returned (.string t) ∧ t.size ≤ 1000) ∧ w' = w := fun w => many_any [118] (200 + k) w (by simp; omega) (by omega)
    have g3 := g1.trans g2
    clear hK g1 g2 h1
    go_wp2_with (go_at_call 41; refine (hM _).mono ?_; rintro e w3 ⟨⟨t, rfl, ht⟩, rfl⟩)
    go_ret
    exact ⟨t, _, rfl, ht, h2, by omega, g3⟩
  · have hx' : (x == 0) = false := by simpa using hx
    have hT := text_gr w0 w1 B A m cap (p + 1) 12 h1 (by omega) (by omega)
    go_wp2_with (go_at_call 40; refine hT.mono ?_; rintro e w2 ⟨t, p', rfl, ht, h2, hp2, g2⟩)
    go_ret
    exact ⟨t, p', rfl, by omega, h2, by omega, g1.trans g2⟩
end Go.Proofs.Ytimpdjlgfjehcaa

namespace Go.Proofs.Ytimpdjlgfjehcaa
open Go.RowKit

set_option maxRecDepth 100000 in
set_option maxHeartbeats 2000000 in
theorem mask_gr (w0 w : World) (B : Nat) (A : Option Addr) (m cap p : Nat) (h : IsRd w0 w B A m cap p) (hp : p ≤ 400000) :
    Calls Try.prog 22 #[.pointer (some ⟨B, 0, none⟩)] w (NumPost w0 w B A m cap p (-1) 1152921504606846975 3) := by
  have hK := pick_rd w0 w B A m cap p 5 h (by omega) (by omega) (by omega)
  clear h
  go_enter Try.func22, Try.ntmps22
  go_wp2_with (go_at_call 23; refine hK.mono ?_; rintro e w1 ⟨x, x0, x1, rfl, h1, g1⟩; refine Hid.out ?_)
  refine Lib.hid ?_
  clear hK
  by_cases hx : x = 0
  · subst hx
    have hK := fun o => pick_rd w0 (w1.alloc o) B A m cap (p + 1) 3 (h1.alloc o) (by omega) (by omega) (by omega)
    have hB := h1.lt
    go_wp2_with (go_at_call 23; refine (hK _).mono ?_; rintro e w2 ⟨y, y0, y1, rfl, h2, g2⟩; refine Hid.out ?_)
    refine Lib.hid ?_
    obtain ⟨k, rfl⟩ : ∃ k : Nat, y = (k : Int) := ⟨y.toNat, by omega⟩
    obtain ⟨z, hz, hc⟩ := lit3 w1 w2 B 0 1152921504606846975 (-1) hB g2 k (by omega)
    have g3 := (g1.trans (World.grownBy_alloc w1 _ (some B))).trans g2
    clear hK g1 g2 h1
    go_wp2_with fail
    go_ret
    exact ⟨z, _, rfl, by omega, by omega, h2, by omega, g3⟩
  have hx' : (x == 0) = false := by simpa using hx
  by_cases hy : x = 1
  · subst hy
    have hK := pick_rd w0 w1 B A m cap (p + 1) 12 h1 (by omega) (by omega) (by omega)
    clear hx hx'
    go_wp2_with (go_at_call 23; refine hK.mono ?_; rintro e w2 ⟨y, y0, y1, rfl, h2, g2⟩; refine Hid.out ?_)
    refine Lib.hid ?_
    have g3 := g1.trans g2
    clear hK g1 g2 h1 x0 x1
    rcases (show y = 0 ∨ y = 1 ∨ y = 2 ∨ y = 3 ∨ y = 4 ∨ y = 5 ∨ y = 6 ∨ y = 7 ∨ y = 8 ∨ y = 9 ∨ y = 10 ∨ y = 11 by omega) with rfl | rfl | rfl | rfl | rfl | rfl | rfl | rfl | rfl | rfl | rfl | rfl
    all_goals
      go_wp2_with fail
      go_ret
      exact ⟨_, _, rfl, by decide, by decide, h2, by omega, g3⟩
  have hy' : (x == 1) = false := by simpa using hy
  have hK := pick_rd w0 w1 B A m cap (p + 1) 256 h1 (by omega) (by omega) (by omega)
  go_wp2_with (go_at_call 23; refine hK.mono ?_; rintro e w2 ⟨y, y0, y1, rfl, h2, g2⟩; refine Hid.out ?_)
  refine Lib.hid ?_
  have g3 := g1.trans g2
  clear hK g1 g2 h1
  have hK := pick_rd w0 w2 B A m cap (p + 1 + 1) 256 h2 (by omega) (by omega) (by omega)
  go_wp2_with (go_at_call 23; refine hK.mono ?_; rintro e w4 ⟨z, z0, z1, rfl, h4, g4⟩; refine Hid.out ?_)
  refine Lib.hid ?_
  have hw := IntWalk.i64_in (256 * z) (by omega)
  have hw2 := IntWalk.i64_in (y + 256 * z) (by omega)
  have g5 := g3.trans g4
  clear hK g3 g4 h2
  go_wp2_with fail
  go_ret
  exact ⟨y + 256 * z, _, rfl, by omega, by omega, h4, by omega, g5⟩
end Go.Proofs.Ytimpdjlgfjehcaa
