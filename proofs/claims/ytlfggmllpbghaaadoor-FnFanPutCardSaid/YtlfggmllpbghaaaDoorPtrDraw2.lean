/-
  l91Ptr once more: it writes, of what was there, the reader's block alone.
-/
import Derived.Test.YtlfggmllpbghaaaDoorPtrDraw
namespace Go.Proofs.YtlfggmllpbghaaaDoor
open Go.RowKit

def PtrPost2 (w0 w : World) (B : Nat) (A : Option Addr) (m cap p : Nat) (r : Ending) (w' : World) : Prop :=
  ∃ (a b c d e : Int) (p' : Nat), r = .returned (.agg #[.int .i64 a, .int .i64 b, .int .i64 c, .int .i64 d, .int .i64 e]) ∧ IsRd w0 w' B A m cap p' ∧ p' ≤ p + 40 ∧ w.grownBy w' (some B)
theorem gset {w W : World} {B g : Nat} (h : w.grownBy W (some B)) (hg : w.heap.size ≤ g) (k : Nat) (v : Value) : w.grownBy (W.setCell ⟨g, k, none⟩ v) (some B) :=
  ⟨h.os, h.tape, h.output, by simpa [World.setCell] using h.size, fun i hi hne => (Below.heap_setCell W ⟨g, k, none⟩ v i (by intro e; have e2 : i = g := e; omega)).trans (h.block i hi hne)⟩
theorem below_gr {w W W' : World} {B : Nat} (h : w.grownBy W (some B)) (hb : Below W.heap.size W W') : w.grownBy W' (some B) :=
  ⟨hb.os.trans h.os, hb.tape.trans h.tape, hb.output.trans h.output, Nat.le_trans h.size hb.size, fun i hi hne => (hb.block i (Nat.lt_of_lt_of_le hi h.size)).trans (h.block i hi hne)⟩

set_option maxRecDepth 100000 in
set_option maxHeartbeats 8000000 in
theorem ptr_gr (w0 w : World) (B : Nat) (A : Option Addr) (m cap p : Nat) (h : IsRd w0 w B A m cap p) (hp : p ≤ 400000) :
    Calls Tryd.prog 41 #[.pointer (some ⟨B, 0, none⟩)] w (PtrPost2 w0 w B A m cap p) := by
  have hK := fun (o : Obj) => pick_rd w0 (w.alloc o) B A m cap p 5 (h.alloc o) (by omega) (by omega) (by omega)
  have hBw := h.lt
  have h0w := h.bel.size
  have hR0 : w0.heap.size ≤ w.heap.size := h0w
  have hRB : w.heap.size ≠ B := by omega
  go_enter Tryd.func41, Tryd.ntmps41
  go_wp2_with (go_at_call 49; refine (hK _).mono ?_; rintro e w1 ⟨x, x0, x1, rfl, h1, g1⟩; refine Hid.out ?_)
  refine Lib.hid ?_
  have G := Lib.hid ((World.grownBy_alloc w _ (some B)).trans g1)
  have bR := (Box.new w 0 0 0 0 0).grown g1 (by omega)
  clear hK g1 h
  by_cases hx : x = 0
  · subst hx
    obtain ⟨⟨r0, r1, r2, r3, r4⟩, t0, t1, t2, t3, t4⟩ := bR.cells
    clear bR
    go_wp2_with fail
    refine bodyPost_ret (v := .agg #[.int .i64 0, .int .i64 0, .int .i64 0, .int .i64 0, .int .i64 0]) (by simp [results, Tryd.f41, go_sem, *]) rfl ⟨_, _, _, _, _, p + 1, rfl, (((((h1.set hR0 hRB 0 _).set hR0 hRB 1 _).set hR0 hRB 2 _).set hR0 hRB 3 _).set hR0 hRB 4 _), by omega, gset (gset (gset (gset (gset G.out (Nat.le_refl _) 0 _) (Nat.le_refl _) 1 _) (Nat.le_refl _) 2 _) (Nat.le_refl _) 3 _) (Nat.le_refl _) 4 _⟩
  · have hx' : (x == 0) = false := by simpa using hx
    clear hx
    have hK := pick_rd w0 w1 B A m cap (p + 1) 12 h1 (by omega) (by omega) (by omega)
    clear h1
    go_wp2_with (go_at_call 49; refine hK.mono ?_; rintro e w2 ⟨y, y0, y1, rfl, h2, g2⟩; refine Hid.out ?_)
    refine Lib.hid ?_
    have G := Lib.hid (G.out.trans g2)
    have bR := bR.grown g2 (by omega)
    have hw2 := IntWalk.i64_in (8 + y) (by omega)
    have hK := pick_rd w0 w2 B A m cap (p + 1 + 1) 9 h2 (by omega) (by omega) (by omega)
    clear h2 g2
    go_wp2_with (go_at_call 49; refine hK.mono ?_; rintro e w3 ⟨z, z0, z1, rfl, h3, g3⟩; refine Hid.out ?_)
    refine Lib.hid ?_
    have G := Lib.hid (G.out.trans g3)
    have bR := bR.grown g3 (by omega)
    have hw3 := IntWalk.i64_in (1 + z) (by omega)
    have hK := pick_rd w0 w3 B A m cap (p + 1 + 1 + 1) 3 h3 (by omega) (by omega) (by omega)
    clear h3 g3
    go_wp2_with (go_at_call 49; refine hK.mono ?_; rintro e w4 ⟨l, l0, l1, rfl, h4, g4⟩; refine Hid.out ?_)
    refine Lib.hid ?_
    have G := Lib.hid (G.out.trans g4)
    have bR := bR.grown g4 (by omega)
    have hT := text_gr w0 w4 B A m cap (p + 1 + 1 + 1 + 1) 9 h4 (by omega) (by omega)
    clear h4 g4 hK
    go_wp2_with (go_at_call 59; refine hT.mono ?_; rintro e w5 ⟨t, p5, rfl, ht, h5, hp5, g5⟩; refine Hid.out ?_)
    refine Lib.hid ?_
    have G := Lib.hid (G.out.trans g5)
    have bR := bR.grown g5 (by omega)
    have htl : t.data.toList.length ≤ 9 := by rw [Array.length_toList]; exact ht
    have hadd : ∀ w, (Op.stringOp .add ⟨#[116]⟩ t).run Tryd.prog w = .ok (.string (strOf ([116] ++ t.data.toList))) w := fun w => add_strs Tryd.prog [116] t.data.toList (by simp; omega) w
    obtain ⟨s, hs⟩ : ∃ s, s = strOf ([116] ++ t.data.toList) := ⟨_, rfl⟩
    rw [← hs] at hadd
    clear hs htl ht hT g5
    go_wp2_with (go_at_call 58; refine (of_some _ _ _ _ _).mono ?_; rintro e w6 ⟨a, b, c, d, e', o, rfl, b6⟩; refine Hid.out ?_)
    refine Lib.hid ?_
    have G := Lib.hid (below_gr G.out b6)
    have bR := bR.below b6
    have h6 := h5.below b6
    have hB6 := h6.lt
    have z6 := h6.bel.size
    have hR6 := bR.lt
    have hK := pick_rd w0 (w6.alloc (.cells #[.int .i64 a, .int .i64 b, .int .i64 c, .int .i64 d, .int .i64 e'] 24)) B A m cap p5 24 (h6.alloc _) (by omega) (by omega) (by omega)
    clear h5 b6 hadd hw2 hw3
    go_wp2_with (go_at_call 49; refine hK.mono ?_; rintro e w7 ⟨q, q0, q1, rfl, h7, g7⟩; refine Hid.out ?_)
    refine Lib.hid ?_
    have hPw : w.heap.size ≤ w6.heap.size := G.out.size
    have G := Lib.hid ((G.out.trans (World.grownBy_alloc _ _ _)).trans g7)
    have bR := (bR.alloc (.cells #[.int .i64 a, .int .i64 b, .int .i64 c, .int .i64 d, .int .i64 e'] 24)).grown g7 (by omega)
    have bP := (Box.new w6 a b c d e').grown g7 (by omega)
    have hB7 := h7.lt
    have hP0 : w0.heap.size ≤ w6.heap.size := z6
    have hPB : w6.heap.size ≠ B := by omega
    have hPR : w6.heap.size ≠ w.heap.size := by omega
    clear hK g7 h6
    by_cases hq0 : q = 0
    · subst hq0
      have hK := row_rd w0 w7 B A m cap (p5 + 1) h7 (by omega)
      go_wp2_with (go_at_call 60; refine hK.mono ?_; rintro e w8 ⟨v, p8, rfl, h8, hp8, g8⟩; refine Hid.out ?_)
      refine Lib.hid ?_
      have G := Lib.hid (G.out.trans g8)
      have bR := bR.grown g8 (by omega)
      have bP := bP.grown g8 (by omega)
      clear hK g8 h7
      obtain ⟨⟨r0, r1, r2, r3, r4⟩, t0, t1, t2, t3, t4⟩ := bR.cells
      obtain ⟨⟨u0', u1', u2', u3', u4'⟩, v0, v1, v2, v3, v4⟩ := bP.cells
      clear bR bP
      go_wp2_with fail
      refine bodyPost_ret (v := .agg #[.int .i64 v, .int .i64 b, .int .i64 c, .int .i64 d, .int .i64 e']) (by simp [results, Tryd.f41, go_sem, *]) rfl ⟨_, _, _, _, _, p8, rfl, ((((((h8.set hP0 hPB 0 _).set hR0 hRB 0 _).set hR0 hRB 1 _).set hR0 hRB 2 _).set hR0 hRB 3 _).set hR0 hRB 4 _), by omega, gset (gset (gset (gset (gset (gset G.out hPw 0 _) (Nat.le_refl _) 0 _) (Nat.le_refl _) 1 _) (Nat.le_refl _) 2 _) (Nat.le_refl _) 3 _) (Nat.le_refl _) 4 _⟩
    have hn0 : (q == 0) = false := by simpa using hq0
    by_cases hq1 : q = 1
    · subst hq1
      have hK := fun (o : Obj) => pick_rd w0 (w7.alloc o) B A m cap (p5 + 1) 4 (h7.alloc o) (by omega) (by omega) (by omega)
      go_wp2_with (go_at_call 49; refine (hK _).mono ?_; rintro e w8 ⟨u, u0, u1, rfl, h8, g8⟩; refine Hid.out ?_)
      refine Lib.hid ?_
      have G := Lib.hid ((G.out.trans (World.grownBy_alloc _ _ _)).trans g8)
      obtain ⟨j, rfl⟩ : ∃ j : Nat, u = (j : Int) := ⟨u.toNat, by omega⟩
      obtain ⟨v, hc⟩ := some_cell w7 w8 B _ _ 4 j rfl (by omega) (by intro i hi; match i, hi with | 0, _ => exact ⟨_, rfl⟩ | 1, _ => exact ⟨_, rfl⟩ | 2, _ => exact ⟨_, rfl⟩ | 3, _ => exact ⟨_, rfl⟩) hB7 g8
      have bR := (bR.alloc _).grown g8 (by omega)
      have bP := (bP.alloc _).grown g8 (by omega)
      clear hK g8 h7
      obtain ⟨⟨r0, r1, r2, r3, r4⟩, t0, t1, t2, t3, t4⟩ := bR.cells
      obtain ⟨⟨u0', u1', u2', u3', u4'⟩, v0, v1, v2, v3, v4⟩ := bP.cells
      clear bR bP
      go_wp2_with fail
      refine bodyPost_ret (v := .agg #[.int .i64 a, .int .i64 v, .int .i64 c, .int .i64 d, .int .i64 e']) (by simp [results, Tryd.f41, go_sem, *]) rfl ⟨_, _, _, _, _, p5 + 1 + 1, rfl, ((((((h8.set hP0 hPB 1 _).set hR0 hRB 0 _).set hR0 hRB 1 _).set hR0 hRB 2 _).set hR0 hRB 3 _).set hR0 hRB 4 _), by omega, gset (gset (gset (gset (gset (gset G.out hPw 1 _) (Nat.le_refl _) 0 _) (Nat.le_refl _) 1 _) (Nat.le_refl _) 2 _) (Nat.le_refl _) 3 _) (Nat.le_refl _) 4 _⟩
    have hn1 : (q == 1) = false := by simpa using hq1
    by_cases hq2 : q = 2
    · subst hq2
      have hK := fun (o : Obj) => pick_rd w0 (w7.alloc o) B A m cap (p5 + 1) 4 (h7.alloc o) (by omega) (by omega) (by omega)
      go_wp2_with (go_at_call 49; refine (hK _).mono ?_; rintro e w8 ⟨u, u0, u1, rfl, h8, g8⟩; refine Hid.out ?_)
      refine Lib.hid ?_
      have G := Lib.hid ((G.out.trans (World.grownBy_alloc _ _ _)).trans g8)
      obtain ⟨j, rfl⟩ : ∃ j : Nat, u = (j : Int) := ⟨u.toNat, by omega⟩
      obtain ⟨v, hc⟩ := some_cell w7 w8 B _ _ 4 j rfl (by omega) (by intro i hi; match i, hi with | 0, _ => exact ⟨_, rfl⟩ | 1, _ => exact ⟨_, rfl⟩ | 2, _ => exact ⟨_, rfl⟩ | 3, _ => exact ⟨_, rfl⟩) hB7 g8
      have bR := (bR.alloc _).grown g8 (by omega)
      have bP := (bP.alloc _).grown g8 (by omega)
      clear hK g8 h7
      obtain ⟨⟨r0, r1, r2, r3, r4⟩, t0, t1, t2, t3, t4⟩ := bR.cells
      obtain ⟨⟨u0', u1', u2', u3', u4'⟩, v0, v1, v2, v3, v4⟩ := bP.cells
      clear bR bP
      go_wp2_with fail
      refine bodyPost_ret (v := .agg #[.int .i64 a, .int .i64 b, .int .i64 v, .int .i64 d, .int .i64 e']) (by simp [results, Tryd.f41, go_sem, *]) rfl ⟨_, _, _, _, _, p5 + 1 + 1, rfl, ((((((h8.set hP0 hPB 2 _).set hR0 hRB 0 _).set hR0 hRB 1 _).set hR0 hRB 2 _).set hR0 hRB 3 _).set hR0 hRB 4 _), by omega, gset (gset (gset (gset (gset (gset G.out hPw 2 _) (Nat.le_refl _) 0 _) (Nat.le_refl _) 1 _) (Nat.le_refl _) 2 _) (Nat.le_refl _) 3 _) (Nat.le_refl _) 4 _⟩
    have hn2 : (q == 2) = false := by simpa using hq2
    by_cases hq3 : q = 3
    · subst hq3
      have hK := fun (o : Obj) => pick_rd w0 (w7.alloc o) B A m cap (p5 + 1) 4 (h7.alloc o) (by omega) (by omega) (by omega)
      go_wp2_with (go_at_call 49; refine (hK _).mono ?_; rintro e w8 ⟨u, u0, u1, rfl, h8, g8⟩; refine Hid.out ?_)
      refine Lib.hid ?_
      have G := Lib.hid ((G.out.trans (World.grownBy_alloc _ _ _)).trans g8)
      obtain ⟨j, rfl⟩ : ∃ j : Nat, u = (j : Int) := ⟨u.toNat, by omega⟩
      obtain ⟨v, hc⟩ := some_cell w7 w8 B _ _ 4 j rfl (by omega) (by intro i hi; match i, hi with | 0, _ => exact ⟨_, rfl⟩ | 1, _ => exact ⟨_, rfl⟩ | 2, _ => exact ⟨_, rfl⟩ | 3, _ => exact ⟨_, rfl⟩) hB7 g8
      have bR := (bR.alloc _).grown g8 (by omega)
      have bP := (bP.alloc _).grown g8 (by omega)
      clear hK g8 h7
      obtain ⟨⟨r0, r1, r2, r3, r4⟩, t0, t1, t2, t3, t4⟩ := bR.cells
      obtain ⟨⟨u0', u1', u2', u3', u4'⟩, v0, v1, v2, v3, v4⟩ := bP.cells
      clear bR bP
      go_wp2_with fail
      refine bodyPost_ret (v := .agg #[.int .i64 a, .int .i64 b, .int .i64 c, .int .i64 v, .int .i64 e']) (by simp [results, Tryd.f41, go_sem, *]) rfl ⟨_, _, _, _, _, p5 + 1 + 1, rfl, ((((((h8.set hP0 hPB 3 _).set hR0 hRB 0 _).set hR0 hRB 1 _).set hR0 hRB 2 _).set hR0 hRB 3 _).set hR0 hRB 4 _), by omega, gset (gset (gset (gset (gset (gset G.out hPw 3 _) (Nat.le_refl _) 0 _) (Nat.le_refl _) 1 _) (Nat.le_refl _) 2 _) (Nat.le_refl _) 3 _) (Nat.le_refl _) 4 _⟩
    have hn3 : (q == 3) = false := by simpa using hq3
    by_cases hq4 : q = 4
    · subst hq4
      have hK := fun (o : Obj) => pick_rd w0 (w7.alloc o) B A m cap (p5 + 1) 3 (h7.alloc o) (by omega) (by omega) (by omega)
      go_wp2_with (go_at_call 49; refine (hK _).mono ?_; rintro e w8 ⟨u, u0, u1, rfl, h8, g8⟩; refine Hid.out ?_)
      refine Lib.hid ?_
      have G := Lib.hid ((G.out.trans (World.grownBy_alloc _ _ _)).trans g8)
      obtain ⟨j, rfl⟩ : ∃ j : Nat, u = (j : Int) := ⟨u.toNat, by omega⟩
      obtain ⟨v, hc⟩ := some_cell w7 w8 B _ _ 3 j rfl (by omega) (by intro i hi; match i, hi with | 0, _ => exact ⟨_, rfl⟩ | 1, _ => exact ⟨_, rfl⟩ | 2, _ => exact ⟨_, rfl⟩) hB7 g8
      have bR := (bR.alloc _).grown g8 (by omega)
      have bP := (bP.alloc _).grown g8 (by omega)
      clear hK g8 h7
      obtain ⟨⟨r0, r1, r2, r3, r4⟩, t0, t1, t2, t3, t4⟩ := bR.cells
      obtain ⟨⟨u0', u1', u2', u3', u4'⟩, v0, v1, v2, v3, v4⟩ := bP.cells
      clear bR bP
      go_wp2_with fail
      refine bodyPost_ret (v := .agg #[.int .i64 a, .int .i64 b, .int .i64 c, .int .i64 d, .int .i64 v]) (by simp [results, Tryd.f41, go_sem, *]) rfl ⟨_, _, _, _, _, p5 + 1 + 1, rfl, ((((((h8.set hP0 hPB 4 _).set hR0 hRB 0 _).set hR0 hRB 1 _).set hR0 hRB 2 _).set hR0 hRB 3 _).set hR0 hRB 4 _), by omega, gset (gset (gset (gset (gset (gset G.out hPw 4 _) (Nat.le_refl _) 0 _) (Nat.le_refl _) 1 _) (Nat.le_refl _) 2 _) (Nat.le_refl _) 3 _) (Nat.le_refl _) 4 _⟩
    have hn4 : (q == 4) = false := by simpa using hq4
    obtain ⟨⟨r0, r1, r2, r3, r4⟩, t0, t1, t2, t3, t4⟩ := bR.cells
    obtain ⟨⟨u0', u1', u2', u3', u4'⟩, v0, v1, v2, v3, v4⟩ := bP.cells
    clear bR bP
    go_wp2_with fail
    refine bodyPost_ret (v := .agg #[.int .i64 a, .int .i64 b, .int .i64 c, .int .i64 d, .int .i64 e']) (by simp [results, Tryd.f41, go_sem, *]) rfl ⟨_, _, _, _, _, p5 + 1, rfl, (((((h7.set hR0 hRB 0 _).set hR0 hRB 1 _).set hR0 hRB 2 _).set hR0 hRB 3 _).set hR0 hRB 4 _), by omega, gset (gset (gset (gset (gset G.out (Nat.le_refl _) 0 _) (Nat.le_refl _) 1 _) (Nat.le_refl _) 2 _) (Nat.le_refl _) 3 _) (Nat.le_refl _) 4 _⟩

end Go.Proofs.YtlfggmllpbghaaaDoor
