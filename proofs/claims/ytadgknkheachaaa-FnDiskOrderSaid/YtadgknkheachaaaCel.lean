/-
  l91Cell, l91Cells, l91Mask: a place, a text, a mask.
-/
import Derived.Test.YtadgknkheachaaaMany
namespace Go.Proofs.Ytadgknkheachaaa
open Go.RowKit

def NumPost (w0 w : World) (B : Nat) (A : Option Addr) (m cap p : Nat) (lo hi : Int) (n : Nat) (e : Ending) (w' : World) : Prop :=
  ∃ (x : Int) (p' : Nat), e = .returned (.int .i64 x) ∧ lo ≤ x ∧ x ≤ hi ∧ IsRd w0 w' B A m cap p' ∧ p' ≤ p + n ∧ w.grownBy w' (some B)

theorem lit3 (W w2 : World) (B : Nat) (a b c : Int) (hB : B < W.heap.size) (g : (W.alloc (.cells #[.int .i64 a, .int .i64 b, .int .i64 c] 3)).grownBy w2 (some B)) (k : Nat) (hk : k < 3) :
    ∃ y : Int, (y = a ∨ y = b ∨ y = c) ∧ w2.cell? ⟨W.heap.size, k, none⟩ = some (.int .i64 y) := by
  rw [World.cell?_of_block (w := W.alloc (.cells #[.int .i64 a, .int .i64 b, .int .i64 c] 3)) (g.block W.heap.size (by simp) (fun e => by injection e with e; omega))]
  rcases (show k = 0 ∨ k = 1 ∨ k = 2 by omega) with rfl | rfl | rfl
  · exact ⟨a, .inl rfl, by rw [World.cell?_alloc_mark]; rfl⟩
  · exact ⟨b, .inr (.inl rfl), by rw [World.cell?_alloc_mark]; rfl⟩
  · exact ⟨c, .inr (.inr rfl), by rw [World.cell?_alloc_mark]; rfl⟩

set_option maxRecDepth 100000 in
set_option maxHeartbeats 1000000 in
theorem cell_gr (w0 w : World) (B : Nat) (A : Option Addr) (m cap p : Nat) (h : IsRd w0 w B A m cap p) (hp : p ≤ 400000) :
    Calls Try.prog 76 #[.pointer (some ⟨B, 0, none⟩)] w (NumPost w0 w B A m cap p (-1) 64 2) := by
  have hK := pick_rd w0 w B A m cap p 10 h (by omega) (by omega) (by omega)
  clear h
  go_enter Try.func76, Try.ntmps76
  go_wp2_with (go_at_call 79; refine hK.mono ?_; rintro e w1 ⟨x, x0, x1, rfl, h1, g1⟩; refine Hid.out ?_)
  refine Lib.hid ?_
  clear hK
  by_cases hx : x = 0
  · subst hx
    have hK := fun o => pick_rd w0 (w1.alloc o) B A m cap (p + 1) 3 (h1.alloc o) (by omega) (by omega) (by omega)
    have hB := h1.lt
    go_wp2_with (go_at_call 79; refine (hK _).mono ?_; rintro e w2 ⟨y, y0, y1, rfl, h2, g2⟩; refine Hid.out ?_)
    refine Lib.hid ?_
    obtain ⟨k, rfl⟩ : ∃ k : Nat, y = (k : Int) := ⟨y.toNat, by omega⟩
    obtain ⟨z, hz, hc⟩ := lit3 w1 w2 B (-1) 64 63 hB g2 k (by omega)
    have g3 := (g1.trans (World.grownBy_alloc w1 _ (some B))).trans g2
    clear hK g1 g2 h1
    go_wp2_with fail
    go_ret
    exact ⟨z, _, rfl, by omega, by omega, h2, by omega, g3⟩
  · have hx' : (x == 0) = false := by simpa using hx
    have hK := pick_rd w0 w1 B A m cap (p + 1) 14 h1 (by omega) (by omega) (by omega)
    go_wp2_with (go_at_call 79; refine hK.mono ?_; rintro e w2 ⟨y, y0, y1, rfl, h2, g2⟩)
    go_ret
    exact ⟨y, _, rfl, by omega, by omega, h2, by omega, g1.trans g2⟩

def TxPost (w0 w : World) (B : Nat) (A : Option Addr) (m cap p n : Nat) (e : Ending) (w' : World) : Prop :=
  ∃ (s : ByteArray) (p' : Nat), e = .returned (.string s) ∧ s.size ≤ 1000 ∧ IsRd w0 w' B A m cap p' ∧ p' ≤ p + n ∧ w.grownBy w' (some B)

set_option maxRecDepth 100000 in
set_option maxHeartbeats 1000000 in
theorem cells_gr (w0 w : World) (B : Nat) (A : Option Addr) (m cap p : Nat) (h : IsRd w0 w B A m cap p) (hp : p ≤ 400000) :
    Calls Try.prog 77 #[.pointer (some ⟨B, 0, none⟩)] w (TxPost w0 w B A m cap p 40) := by
  have hK := pick_rd w0 w B A m cap p 20 h (by omega) (by omega) (by omega)
  clear h
  go_enter Try.func77, Try.ntmps77
  go_wp2_with (go_at_call 79; refine hK.mono ?_; rintro e w1 ⟨x, x0, x1, rfl, h1, g1⟩; refine Hid.out ?_)
  refine Lib.hid ?_
  clear hK
  by_cases hx : x = 0
  · subst hx
    have hK := pick_rd w0 w1 B A m cap (p + 1) 2 h1 (by omega) (by omega) (by omega)
    go_wp2_with (go_at_call 79; refine hK.mono ?_; rintro e w2 ⟨y, y0, y1, rfl, h2, g2⟩; refine Hid.out ?_)
    refine Lib.hid ?_
    obtain ⟨k, rfl⟩ : ∃ k : Nat, y = (k : Int) := ⟨y.toNat, by omega⟩
    have hw := IntWalk.i64_in (200 + (k : Int)) (by omega)
    have hM : ∀ w, Calls Try.prog 94 #[.string ⟨#[118]⟩, .int .i64 (200 + (k : Int))] w fun r w' => (∃ t : ByteArray, r = .returned (.string t) ∧ t.size ≤ 1000) ∧ w' = w := fun w => many_any [118] (200 + k) w (by simp; omega) (by omega)
    have g3 := g1.trans g2
    clear hK g1 g2 h1
    go_wp2_with (go_at_call 94; refine (hM _).mono ?_; rintro e w3 ⟨⟨t, rfl, ht⟩, rfl⟩)
    go_ret
    exact ⟨t, _, rfl, ht, h2, by omega, g3⟩
  · have hx' : (x == 0) = false := by simpa using hx
    have hT := text_gr w0 w1 B A m cap (p + 1) 12 h1 (by omega) (by omega)
    go_wp2_with (go_at_call 93; refine hT.mono ?_; rintro e w2 ⟨t, p', rfl, ht, h2, hp2, g2⟩)
    go_ret
    exact ⟨t, p', rfl, by omega, h2, by omega, g1.trans g2⟩
end Go.Proofs.Ytadgknkheachaaa
