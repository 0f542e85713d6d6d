/-
  The model's way of giving a reference back.
-/
import Derived.Test.YtmnamclndpfjnaaSpT
namespace Go.Proofs.Ytmnamclndpfjnaa
open Go.RowKit

def lastG (x : Int) (ls : List Int) (k : Nat) : List Int := if x = 1 then ls.set k 0 else ls
theorem lastG_len (x : Int) (ls : List Int) (k : Nat) : (lastG x ls k).length = ls.length := by unfold lastG; split <;> simp
theorem only_set {lo hi : Nat} {W : World} {p : Addr} (h1 : lo ≤ p.block) (h2 : p.block < hi) (u : Value) : Only lo hi W (W.setCell p u) :=
  ⟨rfl, rfl, rfl, by simp [World.setCell], fun k _ hn => Below.heap_setCell _ _ _ k (fun e => hn (by rw [e]; exact ⟨h1, h2⟩))⟩
theorem Only.drew {lo hi : Nat} {a W : World} (h : Only lo hi a W) : Only lo hi a W.drew := ⟨h.os, h.tape, h.output, h.size, h.block⟩
theorem Only.set2 {lo hi : Nat} {a W : World} (h : Only lo hi a W) {p : Addr} (hp : a.heap.size ≤ p.block) (u : Value) : Only lo hi a (W.setCell p u) :=
  ⟨h.os, h.tape, h.output, by have := h.size; simp [World.setCell]; exact this, fun k hk hn => (Below.heap_setCell _ _ _ k (fun e => by omega)).trans (h.block k hk hn)⟩

theorem fin_box {lo p q c e : Nat} {rs ls : List Int} {w W : World} (hp : p < w.heap.size) (hq : q < w.heap.size)
    (h : W.ownsRow lo 3 1 (.slice (some ⟨p, 0, none⟩) 64 c) 64 (intCells rs) ∧ W.ownsRow lo 3 1 (.slice (some ⟨q, 0, none⟩) 64 e) 64 (intCells ls) ∧ Only lo w.heap.size w W) (a b : Value) :
    (((W.setCell ⟨w.heap.size + 1, 0, none⟩ a).setCell ⟨w.heap.size + 1, 1, none⟩ b).drew).ownsRow lo 3 1 (.slice (some ⟨p, 0, none⟩) 64 c) 64 (intCells rs) ∧ (((W.setCell ⟨w.heap.size + 1, 0, none⟩ a).setCell ⟨w.heap.size + 1, 1, none⟩ b).drew).ownsRow lo 3 1 (.slice (some ⟨q, 0, none⟩) 64 e) 64 (intCells ls) ∧
      Only lo w.heap.size w (((W.setCell ⟨w.heap.size + 1, 0, none⟩ a).setCell ⟨w.heap.size + 1, 1, none⟩ b).drew) := by
  obtain ⟨h1, h2, h3⟩ := h
  refine ⟨?_, ?_, ((h3.set2 (p := ⟨w.heap.size + 1, 0, none⟩) (Nat.le_succ _) a).set2 (p := ⟨w.heap.size + 1, 1, none⟩) (Nat.le_succ _) b).drew⟩
  · have r := (h1.kept (grown_set W ⟨w.heap.size + 1, 0, none⟩ a) (.inr (fun e => by have e' : some p = some (w.heap.size + 1) := e; simp at e'; omega))).kept (grown_set (W.setCell ⟨w.heap.size + 1, 0, none⟩ a) ⟨w.heap.size + 1, 1, none⟩ b) (.inr (fun e => by have e' : some p = some (w.heap.size + 1) := e; simp at e'; omega))
    exact r
  · have r := (h2.kept (grown_set W ⟨w.heap.size + 1, 0, none⟩ a) (.inr (fun e => by have e' : some q = some (w.heap.size + 1) := e; simp at e'; omega))).kept (grown_set (W.setCell ⟨w.heap.size + 1, 0, none⟩ a) ⟨w.heap.size + 1, 1, none⟩ b) (.inr (fun e => by have e' : some q = some (w.heap.size + 1) := e; simp at e'; omega))
    exact r

set_option maxRecDepth 100000 in
set_option maxHeartbeats 4000000 in
theorem spec_l5give (lo p q k c e : Nat) (x y : Int) (rs ls : List Int) (w : World) (hne : p ≠ q) (hlo : lo ≤ p) (hlo2 : lo ≤ q) (hk : k < 64) (hx1 : 1 ≤ x) (hx2 : x ≤ 900)
    (h1 : w.ownsRow lo 3 1 (.slice (some ⟨p, 0, none⟩) 64 c) 64 (intCells rs)) (h2 : w.ownsRow lo 3 1 (.slice (some ⟨q, 0, none⟩) 64 e) 64 (intCells ls)) (hx : ∃ h : k < rs.length, rs[k] = x) (hy : ∃ h : k < ls.length, ls[k] = y) :
    Calls Try.prog 105 #[.agg #[.slice (some ⟨p, 0, none⟩) 64 c, .slice (some ⟨q, 0, none⟩) 64 e], .int .i64 (k : Int)] w fun r w' => r = .returned (.agg #[.slice (some ⟨p, 0, none⟩) 64 c, .slice (some ⟨q, 0, none⟩) 64 e]) ∧
      w'.ownsRow lo 3 1 (.slice (some ⟨p, 0, none⟩) 64 c) 64 (intCells (rs.set k (x - 1))) ∧ w'.ownsRow lo 3 1 (.slice (some ⟨q, 0, none⟩) 64 e) 64 (intCells (lastG x ls k)) ∧ Only lo w.heap.size w w' := by
  obtain ⟨hk1, hk2⟩ := hx
  obtain ⟨hk3, hk4⟩ := hy
  have hp1 := (h1.lt p rfl).2
  have hq1 := (h2.lt q rfl).2
  have hk64 : (k : Int) < 64 := by omega
  have HP := Lib.hid (And.intro hp1 hq1)
  obtain ⟨bx, hbx⟩ : ∃ bx : Obj, bx = .cells #[.slice (some ⟨p, 0, none⟩) 64 c, .slice (some ⟨q, 0, none⟩) 64 e] 25 := ⟨_, rfl⟩
  obtain ⟨bn, hbn⟩ : ∃ bn : Obj, bn = .cells #[.slice none 0 0, .slice none 0 0] 25 := ⟨_, rfl⟩
  have a0 := (B2.new w 25 (.slice (some ⟨p, 0, none⟩) 64 c) (.slice (some ⟨q, 0, none⟩) 64 e)).alloc (.cells #[.slice none 0 0, .slice none 0 0] 25)
  have a1 := B2.new (w.alloc (.cells #[.slice (some ⟨p, 0, none⟩) 64 c, .slice (some ⟨q, 0, none⟩) 64 e] 25)) 25 (.slice none 0 0) (.slice none 0 0)
  rw [World.size_alloc] at a1
  rw [← hbx, ← hbn] at a0 a1
  have g1 := (h1.alloc bx).alloc bn
  have g2 := (h2.alloc bx).alloc bn
  obtain ⟨cp, fp⟩ := cell_own g1 hk1 hk2
  have g1b := own_put (k := k) g1 (x - 1)
  have g2b := g2.kept (grown_set _ ⟨p, k, none⟩ (.int .i64 (x - 1))) (.inr (by simpa [Value.ownBlock] using hne.symm))
  obtain ⟨cq, fq⟩ := cell_own g2b hk3 hk4
  have hkk : k < (rs.set k (x - 1)).length := by simpa using hk1
  obtain ⟨cr, _⟩ := cell_own g1b hkk (by simp : (rs.set k (x - 1))[k] = x - 1)
  have a0b := a0.set (p := ⟨p, k, none⟩) (by show w.heap.size ≠ p; omega) (.int .i64 (x - 1))
  have a1b := a1.set (p := ⟨p, k, none⟩) (by show w.heap.size + 1 ≠ p; omega) (.int .i64 (x - 1))
  have O0 : Only lo w.heap.size w ((w.alloc bx).alloc bn) := Only.of_below (bel_new (bel_new (Below.refl _ _) _) _)
  have O1 := O0.trans (only_set (W := (w.alloc bx).alloc bn) (p := ⟨p, k, none⟩) hlo hp1 (.int .i64 (x - 1)))
  obtain ⟨⟨m0, m1⟩, _, _⟩ := a0.cells
  obtain ⟨⟨m2, m3⟩, _, _⟩ := a0b.cells
  by_cases hx0 : x = 1
  · have hq0 : (x - 1 == 0) = true := by simp; omega
    have hlg : lastG x ls k = ls.set k 0 := by simp [lastG, hx0]
    rw [hlg]
    have g2c := own_put (k := k) g2b 0
    have g1c := g1b.kept (grown_set _ ⟨q, k, none⟩ (.int .i64 0)) (.inr (by simpa [Value.ownBlock] using hne))
    have a0c := a0b.set (p := ⟨q, k, none⟩) (by show w.heap.size ≠ q; omega) (.int .i64 0)
    have a1c := a1b.set (p := ⟨q, k, none⟩) (by show w.heap.size + 1 ≠ q; omega) (.int .i64 0)
    have O2 := O1.trans (only_set (W := ((w.alloc bx).alloc bn).setCell ⟨p, k, none⟩ (.int .i64 (x - 1))) (p := ⟨q, k, none⟩) hlo2 hq1 (.int .i64 0))
    obtain ⟨⟨m4, m5⟩, _, _⟩ := a0c.cells
    obtain ⟨⟨y0, y1⟩, f0, f1⟩ := a1c.cells
    have HF := Lib.hid (And.intro g1c (And.intro g2c O2))
    clear g1c g2c O2 O1 O0 a0 a1 a0b a1b a0c a1c g1b g2b g1 g2 h1 h2 hk1 hk3 hk2 hk4 hkk hlo2 hp1 hq1 hlo hlg hx0
    subst hbx hbn
    go_enter Try.func105, Try.ntmps105
    go_wp2
    go_region
    go_wp2_with fail
    exact bodyPost_ret (v := .agg #[.slice (some ⟨p, 0, none⟩) 64 c, .slice (some ⟨q, 0, none⟩) 64 e]) (by simp [results, Try.f105, go_sem, y0, y1]) rfl ⟨rfl, fin_box HP.out.1 HP.out.2 HF.out _ _⟩
  · have hq0 : (x - 1 == 0) = false := by simp; omega
    have hlg : lastG x ls k = ls := by simp [lastG, hx0]
    rw [hlg]
    obtain ⟨⟨y0, y1⟩, f0, f1⟩ := a1b.cells
    have HF := Lib.hid (And.intro g1b (And.intro g2b O1))
    clear O1 O0 a0 a1 a0b a1b g1b g2b g1 g2 h1 h2 hk1 hk3 hk2 hk4 hkk hlo2 hp1 hq1 hlo hlg hx0
    subst hbx hbn
    go_enter Try.func105, Try.ntmps105
    go_wp2
    go_region
    go_wp2_with fail
    exact bodyPost_ret (v := .agg #[.slice (some ⟨p, 0, none⟩) 64 c, .slice (some ⟨q, 0, none⟩) 64 e]) (by simp [results, Try.f105, go_sem, y0, y1]) rfl ⟨rfl, fin_box HP.out.1 HP.out.2 HF.out _ _⟩
theorem spOf_give {s : Sp} (h : SpOk s) (n : Int) {x y : Int} (h0 : 0 ≤ n) (h1 : n < 64) (hu : useAt (usOf s) n = (x, y)) : spOf (giveU (usOf s) n) = ⟨s.refs.set n.toNat (x - 1), lastG x s.last n.toNat⟩ := by
  unfold giveU
  rw [hu, spOf_set, spOf_usOf (by rw [h.1, h.2.1])]
  simp only
  have hl : n.toNat < s.last.length := by rw [h.2.1]; omega
  have hy : s.last[n.toNat] = y := by
    have := usOf_at h.1 h.2.1 n.toNat (by omega)
    unfold useAt at hu
    rw [if_pos h0, this] at hu
    have := congrArg Prod.snd hu
    simp only at this
    rw [List.getD_eq_getElem?_getD, List.getElem?_eq_getElem hl] at this
    exact this
  by_cases hx : x = 1
  · simp [hx, lastG]
  · simp only [hx, if_false, lastG]
    congr 1
    apply List.ext_getElem?
    intro i
    by_cases hi : n.toNat = i
    · subst hi
      rw [List.getElem?_set_self hl, List.getElem?_eq_getElem hl, hy]
    · rw [List.getElem?_set_ne hi]

end Go.Proofs.Ytmnamclndpfjnaa
