/-
  The model's way of giving a reference back, and just which blocks turn.
-/
import Derived.Test.YtmnamclndpfjnaaSpG
namespace Go.Proofs.Ytmnamclndpfjnaa
open Go.RowKit

/-- Of the blocks that were there just two may have turned. -/
structure Two (p q : Nat) (a w : World) : Prop where
  os : w.os = a.os
  tape : w.tape = a.tape
  output : w.output = a.output
  size : a.heap.size ≤ w.heap.size
  block : ∀ k, k < a.heap.size → k ≠ p → k ≠ q → w.heap[k]? = a.heap[k]?
theorem Two.of_below {p q : Nat} {a w : World} (h : Below a.heap.size a w) : Two p q a w := ⟨h.os, h.tape, h.output, h.size, fun k hk _ _ => h.block k hk⟩
theorem Two.trans {p q : Nat} {a b c : World} (h : Two p q a b) (k : Two p q b c) : Two p q a c := ⟨k.os.trans h.os, k.tape.trans h.tape, k.output.trans h.output, Nat.le_trans h.size k.size, fun i hi h1 h2 => (k.block i (Nat.lt_of_lt_of_le hi h.size) h1 h2).trans (h.block i hi h1 h2)⟩
theorem two_set {p q : Nat} {W : World} {a : Addr} (h : a.block = p ∨ a.block = q) (u : Value) : Two p q W (W.setCell a u) :=
  ⟨rfl, rfl, rfl, by simp [World.setCell], fun k _ h1 h2 => Below.heap_setCell _ _ _ k (fun e => by rcases h with h | h <;> omega)⟩
theorem Two.drew {p q : Nat} {a W : World} (h : Two p q a W) : Two p q a W.drew := ⟨h.os, h.tape, h.output, h.size, h.block⟩
theorem Two.set2 {p q : Nat} {a W : World} (h : Two p q a W) {x : Addr} (hp : a.heap.size ≤ x.block) (u : Value) : Two p q a (W.setCell x u) :=
  ⟨h.os, h.tape, h.output, by have := h.size; simp [World.setCell]; exact this, fun k hk h1 h2 => (Below.heap_setCell _ _ _ k (fun e => by omega)).trans (h.block k hk h1 h2)⟩

theorem fin_boxt {lo p q c e : Nat} {rs ls : List Int} {w W : World} (hp : p < w.heap.size) (hq : q < w.heap.size)
    (h : W.ownsRow lo 3 1 (.slice (some ⟨p, 0, none⟩) 64 c) 64 (intCells rs) ∧ W.ownsRow lo 3 1 (.slice (some ⟨q, 0, none⟩) 64 e) 64 (intCells ls) ∧ Two p q w W) (a b : Value) :
    (((W.setCell ⟨w.heap.size + 1, 0, none⟩ a).setCell ⟨w.heap.size + 1, 1, none⟩ b).drew).ownsRow lo 3 1 (.slice (some ⟨p, 0, none⟩) 64 c) 64 (intCells rs) ∧ (((W.setCell ⟨w.heap.size + 1, 0, none⟩ a).setCell ⟨w.heap.size + 1, 1, none⟩ b).drew).ownsRow lo 3 1 (.slice (some ⟨q, 0, none⟩) 64 e) 64 (intCells ls) ∧
      Two p q w (((W.setCell ⟨w.heap.size + 1, 0, none⟩ a).setCell ⟨w.heap.size + 1, 1, none⟩ b).drew) := by
  obtain ⟨h1, h2, h3⟩ := h
  refine ⟨?_, ?_, ((h3.set2 (x := ⟨w.heap.size + 1, 0, none⟩) (Nat.le_succ _) a).set2 (x := ⟨w.heap.size + 1, 1, none⟩) (Nat.le_succ _) b).drew⟩
  · have r := (h1.kept (grown_set W ⟨w.heap.size + 1, 0, none⟩ a) (.inr (fun e => by have e' : some p = some (w.heap.size + 1) := e; simp at e'; omega))).kept (grown_set (W.setCell ⟨w.heap.size + 1, 0, none⟩ a) ⟨w.heap.size + 1, 1, none⟩ b) (.inr (fun e => by have e' : some p = some (w.heap.size + 1) := e; simp at e'; omega))
    exact r
  · have r := (h2.kept (grown_set W ⟨w.heap.size + 1, 0, none⟩ a) (.inr (fun e => by have e' : some q = some (w.heap.size + 1) := e; simp at e'; omega))).kept (grown_set (W.setCell ⟨w.heap.size + 1, 0, none⟩ a) ⟨w.heap.size + 1, 1, none⟩ b) (.inr (fun e => by have e' : some q = some (w.heap.size + 1) := e; simp at e'; omega))
    exact r

set_option maxRecDepth 100000 in
set_option maxHeartbeats 4000000 in
theorem spec_l5givet (lo p q k c e : Nat) (x y : Int) (rs ls : List Int) (w : World) (hne : p ≠ q) (hk : k < 64) (hx1 : 1 ≤ x) (hx2 : x ≤ 900)
    (h1 : w.ownsRow lo 3 1 (.slice (some ⟨p, 0, none⟩) 64 c) 64 (intCells rs)) (h2 : w.ownsRow lo 3 1 (.slice (some ⟨q, 0, none⟩) 64 e) 64 (intCells ls)) (hx : ∃ h : k < rs.length, rs[k] = x) (hy : ∃ h : k < ls.length, ls[k] = y) :
    Calls Try.prog 105 #[.agg #[.slice (some ⟨p, 0, none⟩) 64 c, .slice (some ⟨q, 0, none⟩) 64 e], .int .i64 (k : Int)] w fun r w' => r = .returned (.agg #[.slice (some ⟨p, 0, none⟩) 64 c, .slice (some ⟨q, 0, none⟩) 64 e]) ∧
      w'.ownsRow lo 3 1 (.slice (some ⟨p, 0, none⟩) 64 c) 64 (intCells (rs.set k (x - 1))) ∧ w'.ownsRow lo 3 1 (.slice (some ⟨q, 0, none⟩) 64 e) 64 (intCells (lastG x ls k)) ∧ Two p q w w' := by
  obtain ⟨hk1, hk2⟩ := hx
  obtain ⟨hk3, hk4⟩ := hy
  have hp1 := (h1.lt p rfl).2
  have hq1 := (h2.lt q rfl).2
  have hk64 : (k : Int) < 64 := by omega
  have HP := Lib.hid (And.intro hp1 hq1)
  obtain ⟨bx, hbx⟩ : ∃ bx : Obj, bx = .cells #[.slice (some ⟨p, 0, none⟩) 64 c, .slice (some ⟨q, 0, none⟩) 64 e] 25 := ⟨_, rfl⟩
  obtain ⟨bn, hbn⟩ : ∃ bn : Obj, bn = .cells #[.slice none 0 0, .slice none 0 0] 25 := ⟨_, rfl⟩
  have a0 := (B2.new w 25 (.slice (some ⟨p, 0, none⟩) 64 c) (.slice (some ⟨q, 0, none⟩) 64 e)).alloc (.cells #[.slice none 0 0, .slice none 0 0] 25)
  have a1 := B2.new (w.alloc (.cells #[.slice (some ⟨p, 0, none⟩) 64 c, .slice (some ⟨q, 0, none⟩) 64 e] 25)) 25 (.slice none 0 0) (.slice none 0 0)
  rw [World.size_alloc] at a1
  rw [← hbx, ← hbn] at a0 a1
  have g1 := (h1.alloc bx).alloc bn
  have g2 := (h2.alloc bx).alloc bn
  obtain ⟨cp, fp⟩ := cell_own g1 hk1 hk2
  have g1b := own_put (k := k) g1 (x - 1)
  have g2b := g2.kept (grown_set _ ⟨p, k, none⟩ (.int .i64 (x - 1))) (.inr (by simpa [Value.ownBlock] using hne.symm))
  obtain ⟨cq, fq⟩ := cell_own g2b hk3 hk4
  have hkk : k < (rs.set k (x - 1)).length := by simpa using hk1
  obtain ⟨cr, _⟩ := cell_own g1b hkk (by simp : (rs.set k (x - 1))[k] = x - 1)
  have a0b := a0.set (p := ⟨p, k, none⟩) (by show w.heap.size ≠ p; omega) (.int .i64 (x - 1))
  have a1b := a1.set (p := ⟨p, k, none⟩) (by show w.heap.size + 1 ≠ p; omega) (.int .i64 (x - 1))
  have O0 : Two p q w ((w.alloc bx).alloc bn) := Two.of_below (bel_new (bel_new (Below.refl _ _) _) _)
  have O1 := O0.trans (two_set (W := (w.alloc bx).alloc bn) (a := ⟨p, k, none⟩) (.inl rfl) (.int .i64 (x - 1)))
  obtain ⟨⟨m0, m1⟩, _, _⟩ := a0.cells
  obtain ⟨⟨m2, m3⟩, _, _⟩ := a0b.cells
  by_cases hx0 : x = 1
  · have hq0 : (x - 1 == 0) = true := by simp; omega
    have hlg : lastG x ls k = ls.set k 0 := by simp [lastG, hx0]
    rw [hlg]
    have g2c := own_put (k := k) g2b 0
    have g1c := g1b.kept (grown_set _ ⟨q, k, none⟩ (.int .i64 0)) (.inr (by simpa [Value.ownBlock] using hne))
    have a0c := a0b.set (p := ⟨q, k, none⟩) (by show w.heap.size ≠ q; omega) (.int .i64 0)
    have a1c := a1b.set (p := ⟨q, k, none⟩) (by show w.heap.size + 1 ≠ q; omega) (.int .i64 0)
    have O2 := O1.trans (two_set (W := ((w.alloc bx).alloc bn).setCell ⟨p, k, none⟩ (.int .i64 (x - 1))) (a := ⟨q, k, none⟩) (.inr rfl) (.int .i64 0))
    obtain ⟨⟨m4, m5⟩, _, _⟩ := a0c.cells
    obtain ⟨⟨y0, y1⟩, f0, f1⟩ := a1c.cells
    have HF := Lib.hid (And.intro g1c (And.intro g2c O2))
    clear g1c g2c O2 O1 O0 a0 a1 a0b a1b a0c a1c g1b g2b g1 g2 h1 h2 hk1 hk3 hk2 hk4 hkk hp1 hq1 hlg hx0
    subst hbx hbn
    go_enter Try.func105, Try.ntmps105
    go_wp2
    go_region
    go_wp2_with fail
    exact bodyPost_ret (v := .agg #[.slice (some ⟨p, 0, none⟩) 64 c, .slice (some ⟨q, 0, none⟩) 64 e]) (by simp [results, Try.f105, go_sem, y0, y1]) rfl ⟨rfl, fin_boxt HP.out.1 HP.out.2 HF.out _ _⟩
  · have hq0 : (x - 1 == 0) = false := by simp; omega
    have hlg : lastG x ls k = ls := by simp [lastG, hx0]
    rw [hlg]
    obtain ⟨⟨y0, y1⟩, f0, f1⟩ := a1b.cells
    have HF := Lib.hid (And.intro g1b (And.intro g2b O1))
    clear O1 O0 a0 a1 a0b a1b g1b g2b g1 g2 h1 h2 hk1 hk3 hk2 hk4 hkk hp1 hq1 hlg hx0
    subst hbx hbn
    go_enter Try.func105, Try.ntmps105
    go_wp2
    go_region
    go_wp2_with fail
    exact bodyPost_ret (v := .agg #[.slice (some ⟨p, 0, none⟩) 64 c, .slice (some ⟨q, 0, none⟩) 64 e]) (by simp [results, Try.f105, go_sem, y0, y1]) rfl ⟨rfl, fin_boxt HP.out.1 HP.out.2 HF.out _ _⟩
end Go.Proofs.Ytmnamclndpfjnaa
