/-
  DrawPtrOf draws three numbers and a text.
-/
import Derived.Test.YtlfggmllpbghaaaMany
import Derived.Deep.RegionLaw
namespace Go.Proofs.Ytlfggmllpbghaaa
open Go.RowKit
set_option linter.unusedVariables false

def RdN (w0 : World) (B : Nat) (A : Option Addr) (m cap n : Nat) (W : World) : Prop := ∃ p, p ≤ n ∧ IsRd w0 W B A m cap p
theorem RdN.alloc {w0 W : World} {B : Nat} {A : Option Addr} {m cap n : Nat} (h : RdN w0 B A m cap n W) (o : Obj) : RdN w0 B A m cap n (W.alloc o) := by
  obtain ⟨p, hp, h⟩ := h
  exact ⟨p, hp, h.alloc o⟩
theorem RdN.drew {w0 W : World} {B : Nat} {A : Option Addr} {m cap n : Nat} (h : RdN w0 B A m cap n W) : RdN w0 B A m cap n W.drew := by
  obtain ⟨p, hp, h⟩ := h
  exact ⟨p, hp, h.blk, h.bts, h.old, h.bel.drew, h.few⟩
theorem RdN.lt {w0 W : World} {B : Nat} {A : Option Addr} {m cap n : Nat} (h : RdN w0 B A m cap n W) : B < W.heap.size := by
  obtain ⟨p, hp, h⟩ := h
  exact h.lt
theorem RdN.bel {w0 W : World} {B : Nat} {A : Option Addr} {m cap n : Nat} (h : RdN w0 B A m cap n W) : Below w0.heap.size w0 W := by
  obtain ⟨p, hp, h⟩ := h
  exact h.bel

def cv (j : Nat) : Int := ([1, 5, 0, 900, 901] : List Int).getD j 0
theorem lit_at (j : Nat) (hj : j < 5) : (#[Value.int .i64 1, .int .i64 5, .int .i64 0, .int .i64 900, .int .i64 901])[j]? = some (.int .i64 (cv j)) := by
  match j, hj with
  | 0, _ => rfl
  | 1, _ => rfl
  | 2, _ => rfl
  | 3, _ => rfl
  | 4, _ => rfl
theorem lit_at2 (j : Nat) (hj : j < 5) : ([Value.int .i64 1, .int .i64 5, .int .i64 0, .int .i64 900, .int .i64 901])[j]? = some (.int .i64 (cv j)) := by
  match j, hj with
  | 0, _ => rfl
  | 1, _ => rfl
  | 2, _ => rfl
  | 3, _ => rfl
  | 4, _ => rfl

theorem lit_new (j : Nat) (hj : j < 5) (W : World) : (W.alloc (.cells #[.int .i64 1, .int .i64 5, .int .i64 0, .int .i64 900, .int .i64 901] 3)).cell? ⟨W.heap.size, j, none⟩ = some (.int .i64 (cv j)) := by
  rw [World.cell?_alloc_mark]
  exact lit_at j hj

structure Lit (B g : Nat) (W : World) : Prop where
  cell : ∀ j, j < 5 → W.cell? ⟨g, j, none⟩ = some (.int .i64 (cv j))
  lt : g < W.heap.size
  ne : g ≠ B
theorem Lit.new {W W' : World} {B : Nat} {T : TypeId} (g : (W.alloc (.cells #[.int .i64 1, .int .i64 5, .int .i64 0, .int .i64 900, .int .i64 901] T)).grownBy W' (some B)) (hB : B < W.heap.size) : Lit B W.heap.size W' :=
  ⟨fun j hj => by
    rw [World.cell?_of_block (g.block W.heap.size (by simp) (by intro e; cases e; omega)), World.cell?_alloc_mark]
    exact lit_at j hj, Nat.lt_of_lt_of_le (by simp) g.size, by omega⟩
theorem Lit.newD {W W' : World} {B : Nat} {T : TypeId} (g : (W.alloc (.cells #[.int .i64 1, .int .i64 5, .int .i64 0, .int .i64 900, .int .i64 901] T)).drew.grownBy W' (some B)) (hB : B < W.heap.size) : Lit B W.heap.size W' :=
  Lit.new (W := W) ⟨g.os, g.tape, g.output, g.size, g.block⟩ hB
theorem Lit.grown {W W' : World} {B k : Nat} (h : Lit B k W) (g : W.grownBy W' (some B)) : Lit B k W' :=
  ⟨fun j hj => by rw [World.cell?_of_block (g.block k h.lt (by intro e; cases e; exact h.ne rfl))]; exact h.cell j hj, Nat.lt_of_lt_of_le h.lt g.size, h.ne⟩

def OfPost (w : World) (r : Ending) (w' : World) : Prop :=
  ∃ (a b l : Int) (s : ByteArray), r = .returned (.tuple #[.int .i64 a, .int .i64 b, .int .i64 l, .string s]) ∧ s.size ≤ 1000 ∧ Below w.heap.size w w'

theorem bytes_at_below {w w' : World} {A : Option Addr} {n : Nat} (h : BytesAt w A n) (hb : Below w.heap.size w w') : BytesAt w' A n := by
  intro h0
  obtain ⟨b, off, rfl, hlt, hc⟩ := h h0
  refine ⟨b, off, rfl, Nat.lt_of_lt_of_le hlt hb.size, fun j hj => ?_⟩
  obtain ⟨z, z0, z1, hz⟩ := hc j hj
  exact ⟨z, z0, z1, (hb.cell (p := ⟨b, off + j, none⟩) hlt).trans hz⟩

set_option maxRecDepth 100000 in
set_option maxHeartbeats 2000000 in
theorem draw_of (A : Option Addr) (n cap : Nat) (w : World) (hn : n ≤ cap) (hA : BytesAt w A n) :
    Calls Try.prog 9 #[.slice A n cap] w (OfPost w) := by
  have hO := open_rd A n cap w hn hA
  go_enter Try.func9, Try.ntmps9
  go_wp2_with (go_at_call 22; refine hO.mono ?_; rintro e w1 ⟨A1, m, c1, B, rfl, hr⟩; refine Hid.out ?_)
  refine Lib.hid ?_
  have h23 : ∀ W, RdN w B A1 m c1 0 W → Calls Try.prog 23 #[.pointer (some ⟨B, 0, none⟩)] W fun r W' => ∃ x : Int, r = .returned (.int .i64 x) ∧ RdN w B A1 m c1 2 W' ∧ W.grownBy W' (some B) := fun W ⟨p, hp, h⟩ => (row_rd w W B A1 m c1 p h (by omega)).mono fun r W' ⟨x, p', hx, h', hp', g⟩ => ⟨x, hx, ⟨p', by omega, h'⟩, g⟩
  have hpk : ∀ N W, N ≤ 10 → RdN w B A1 m c1 N W → Calls Try.prog 24 #[.pointer (some ⟨B, 0, none⟩), .int .i64 5] W fun r W' => ∃ x : Int, 0 ≤ x ∧ x < 5 ∧ r = .returned (.int .i64 x) ∧ RdN w B A1 m c1 (N + 1) W' ∧ W.grownBy W' (some B) := fun N W hN ⟨p, hp, h⟩ => (pick_rd w W B A1 m c1 p 5 h (by omega) (by omega) (by omega)).mono fun r W' ⟨x, x0, x1, hx, h', g⟩ => ⟨x, x0, x1, hx, ⟨p + 1, by omega, h'⟩, g⟩
  have h13 := fun W => hpk 2 W (by omega)
  have h17 := fun W => hpk 3 W (by omega)
  have h20 : ∀ W, RdN w B A1 m c1 4 W → Calls Try.prog 25 #[.pointer (some ⟨B, 0, none⟩)] W fun r W' => ∃ s : ByteArray, r = .returned (.string s) ∧ s.size ≤ 1000 ∧ RdN w B A1 m c1 64 W' ∧ W.grownBy W' (some B) := fun W ⟨p, hp, h⟩ => (block_gr w W B A1 m c1 p h (by omega)).mono fun r W' ⟨x, p', hx, hs, h', hp', g⟩ => ⟨x, hx, hs, ⟨p', by omega, h'⟩, g⟩
  have hh : RdN w B A1 m c1 0 w1.drew := RdN.drew ⟨0, Nat.le_refl _, hr⟩
  clear hO hr hpk
  go_wp2_with fail
  first
    | go_region_with (first
      | (go_at_call 23; refine (h23 _ ?_).mono ?_; (first | exact hh | exact hh.alloc _); rintro e w2 ⟨x, rfl, hh2, gg⟩; (first | (have hz := Lit.newD gg hh.lt) | skip); have hh := hh2)
      | (go_at_call 24; refine (h13 _ ?_).mono ?_; (first | exact hh | exact hh.alloc _); rintro e w3 ⟨u, u0, u1, rfl, hh3, gg⟩; obtain ⟨j, rfl⟩ : ∃ j : Nat, u = (j : Int) := ⟨u.toNat, by omega⟩; have hj : j < 5 := (by omega); have ha1 := lit_at j hj; have ha2 := lit_at2 j hj; have ha3 := lit_new j hj; (first | (have hz := Lit.new gg hh.lt; have hc := hz.cell j hj) | (have hz := hz.grown gg; have hc := hz.cell j hj) | skip); have hh := hh3)
      | (go_at_call 24; refine (h17 _ ?_).mono ?_; (first | exact hh | exact hh.alloc _); rintro e w4 ⟨v, v0, v1, rfl, hh4, gg⟩; have hvw := IntWalk.i64_in (v - 1) (by omega); (first | (have hz := Lit.new gg hh.lt; have hc := hz.cell j hj) | (have hz := hz.grown gg; have hc := hz.cell j hj) | skip); have hh := hh4)
      | (go_at_call 25; refine (h20 _ ?_).mono ?_; (first | exact hh | exact hh.alloc _); rintro e w5 ⟨s, rfl, hs, hh5, gg⟩; (first | (have hz := Lit.new gg hh.lt; have hc := hz.cell j hj) | (have hz := hz.grown gg; have hc := hz.cell j hj) | skip); have hh := hh5))
    | fail "region"
  all_goals go_wp2_with fail
  all_goals refine bodyPost_ret (v := .tuple #[.int .i64 x, .int .i64 (cv j), .int .i64 (v - 1), .string s]) (by simp [results, Try.f9, go_sem]) rfl ⟨x, cv j, v - 1, s, rfl, hs, by first | exact hh.bel | exact (hh.alloc _).bel⟩

end Go.Proofs.Ytlfggmllpbghaaa
