/-
  Whether two columns of a row are there, with the lengths that they must have.
-/
import Derived.Test.YtohfadgbmlfcmaaJoinH
namespace Go.Proofs.Ytohfadgbmlfcmaa
open Go.RowKit

abbrev rowV (x0 x1 x2 : ByteArray) : Array Value := #[.string x0, .bool true, .string x1, .bool true, .string x2, .bool true]
def RowC (B : Nat) (x0 x1 x2 : ByteArray) (w : World) : Prop :=
  w.cell? ⟨B, 0, none⟩ = some (.string x0) ∧ w.cell? ⟨B, 1, none⟩ = some (.bool true) ∧ w.cell? ⟨B, 2, none⟩ = some (.string x1) ∧ w.cell? ⟨B, 3, none⟩ = some (.bool true) ∧ w.cell? ⟨B, 4, none⟩ = some (.string x2) ∧ w.cell? ⟨B, 5, none⟩ = some (.bool true)
theorem RowC.new (w : World) (x0 x1 x2 : ByteArray) (t : TypeId) : RowC w.heap.size x0 x1 x2 (w.alloc (.cells (rowV x0 x1 x2) t)) := by
  refine ⟨?_, ?_, ?_, ?_, ?_, ?_⟩ <;> (rw [World.cell?_alloc_mark]; rfl)
theorem RowC.below {w w' : World} {B : Nat} {x0 x1 x2 : ByteArray} (h : RowC B x0 x1 x2 w) (hlt : B < w.heap.size) (hb : Below w.heap.size w w') : RowC B x0 x1 x2 w' := by
  obtain ⟨a, b, c, d, e, f⟩ := h
  exact ⟨(hb.cell (p := ⟨B, 0, none⟩) hlt).trans a, (hb.cell (p := ⟨B, 1, none⟩) hlt).trans b, (hb.cell (p := ⟨B, 2, none⟩) hlt).trans c, (hb.cell (p := ⟨B, 3, none⟩) hlt).trans d, (hb.cell (p := ⟨B, 4, none⟩) hlt).trans e, (hb.cell (p := ⟨B, 5, none⟩) hlt).trans f⟩
/-- Two numbers in a row. -/
def TwoN (g : Nat) (i j : Int) (w : World) : Prop := w.cell? ⟨g, 0, none⟩ = some (.int .i64 i) ∧ w.cell? ⟨g, 1, none⟩ = some (.int .i64 j)
theorem TwoN.new (w : World) (i j : Int) (t : TypeId) : TwoN w.heap.size i j (w.alloc (.cells #[.int .i64 i, .int .i64 j] t)) := by
  refine ⟨?_, ?_⟩ <;> (rw [World.cell?_alloc_mark]; rfl)
theorem TwoN.below {w w' : World} {g : Nat} {i j : Int} (h : TwoN g i j w) (hlt : g < w.heap.size) (hb : Below w.heap.size w w') : TwoN g i j w' :=
  ⟨(hb.cell (p := ⟨g, 0, none⟩) hlt).trans h.1, (hb.cell (p := ⟨g, 1, none⟩) hlt).trans h.2⟩
def FitR (x y : ByteArray) (a b : Nat) (k : Nat) : Prop := k = 0 ∨ (k = 1 ∧ x.size = a) ∨ (k = 2 ∧ x.size = a ∧ y.size = b)
def FitPost (x y : ByteArray) (a b : Nat) (w : World) (r : Ending) (w' : World) : Prop := r = .returned (.bool (decide (x.size = a ∧ y.size = b))) ∧ Below w.heap.size w w'
theorem FitPost.no {x y : ByteArray} {a b : Nat} {w w' : World} (h : ¬ (x.size = a ∧ y.size = b)) (hb : Below w.heap.size w w') : FitPost x y a b w (.returned (.bool false)) w' := ⟨by rw [decide_eq_false h], hb⟩
theorem FitPost.yes {x y : ByteArray} {a b : Nat} {w w' : World} (h : x.size = a ∧ y.size = b) (hb : Below w.heap.size w w') : FitPost x y a b w (.returned (.bool true)) w' := ⟨by rw [decide_eq_true h], hb⟩
set_option maxRecDepth 100000 in
set_option maxHeartbeats 4000000 in
theorem fit_01 (x0 x1 x2 : ByteArray) (n g : Nat) (w : World) (h1 : 1 ≤ n) (hn : n ≤ 128) (hs : x0.size ≤ maxLen ∧ x1.size ≤ maxLen ∧ x2.size ≤ maxLen) (hg : g < w.heap.size) (hN : TwoN g 0 1 w) :
    Calls Try.prog 47 #[.agg (rowV x0 x1 x2), .int .i64 (n : Int), .slice (some ⟨g, 0, none⟩) 2 2] w (FitPost x0 x1 (colN 0 n) (colN 1 n) w) := by
  obtain ⟨s0, s1, s2⟩ := hs
  unfold maxLen at s0 s1 s2
  have bl : Below w.heap.size w (w.alloc (.cells (rowV x0 x1 x2) 49)) := bel_new (Below.refl _ _) _
  have hN1 := hN.below hg bl
  have hR1 := RowC.new w x0 x1 x2 49
  have hCa := fun w => col_size 0 n w (by omega)
  have hCb := fun w => col_size 1 n w (by omega)
  obtain ⟨a, ha⟩ : ∃ a, a = colN 0 n := ⟨_, rfl⟩
  obtain ⟨b, hb⟩ : ∃ a, a = colN 1 n := ⟨_, rfl⟩
  rw [← ha] at hCa
  rw [← hb] at hCb
  rw [← ha, ← hb]
  clear ha hb hN hg
  unfold rowV at bl hN1 hR1
  unfold rowV
  go_enter Try.func47, Try.ntmps47
  go_wp2_with fail
  go_loopw [11] (fun i wr => ∃ k : Nat, k ≤ 2 ∧ i = .int .i64 (k : Int) ∧ FitR x0 x1 a b k ∧ TwoN g 0 1 wr ∧ RowC w.heap.size x0 x1 x2 wr ∧ Below w.heap.size w wr) (fun i _ => 2 - (intOf i).toNat)
  case atStart => exact ⟨0, by omega, rfl, .inl rfl, hN1, hR1, bl⟩
  case round =>
    clear hN1 hR1 bl
    obtain ⟨k, hk, rfl, hfit, h2, hr, hbw⟩ := hrel
    rcases hfit with rfl | ⟨rfl, hfx⟩ | ⟨rfl, hfx, hfy⟩
    · clear hk
      obtain ⟨z0, z1⟩ := id h2
      obtain ⟨c0, c1, c2, c3, c4, c5⟩ := id hr
      by_cases hf : x0.size = a
      · have hq : ((x0.size : Int) != (a : Int)) = false := by simp; omega
        have HF := Lib.hid hf
        clear hf
        go_wp2_with fail
        go_quiet ((go_at_call 39; exact Calls.quiet_of_same (hCa _)))
        go_wp2_with fail
        go_roundw
        case rel => exact ⟨1, by omega, by go_num, .inr (.inl ⟨rfl, HF.out⟩), h2, hr, below_drewN hbw _⟩
        case measure => simp [intOf]
      · have hq : ((x0.size : Int) != (a : Int)) = true := by simp; omega
        have HF := Lib.hid hf
        clear hf
        go_wp2_with fail
        go_quiet ((go_at_call 39; exact Calls.quiet_of_same (hCa _)))
        go_wp2_with fail
        go_ret
        exact FitPost.no (fun h => HF.out h.1) (below_drewN hbw _)
    · have HX := Lib.hid hfx
      clear hfx hk
      obtain ⟨z0, z1⟩ := id h2
      obtain ⟨c0, c1, c2, c3, c4, c5⟩ := id hr
      by_cases hf : x1.size = b
      · have hq : ((x1.size : Int) != (b : Int)) = false := by simp; omega
        have HF := Lib.hid hf
        clear hf
        go_wp2_with fail
        go_quiet ((go_at_call 39; exact Calls.quiet_of_same (hCb _)))
        go_wp2_with fail
        go_roundw
        case rel => exact ⟨2, by omega, by go_num, .inr (.inr ⟨rfl, HX.out, HF.out⟩), h2, hr, below_drewN hbw _⟩
        case measure => simp [intOf]
      · have hq : ((x1.size : Int) != (b : Int)) = true := by simp; omega
        have HF := Lib.hid hf
        clear hf
        go_wp2_with fail
        go_quiet ((go_at_call 39; exact Calls.quiet_of_same (hCb _)))
        go_wp2_with fail
        go_ret
        exact FitPost.no (fun h => HF.out h.2) (below_drewN hbw _)
    · have HX := Lib.hid hfx
      have HY := Lib.hid hfy
      clear hfx hfy hk
      go_wp2_with fail
      go_ret
      exact FitPost.yes ⟨HX.out, HY.out⟩ hbw
set_option maxRecDepth 100000 in
set_option maxHeartbeats 4000000 in
theorem fit_12 (x0 x1 x2 : ByteArray) (n g : Nat) (w : World) (h1 : 1 ≤ n) (hn : n ≤ 128) (hs : x0.size ≤ maxLen ∧ x1.size ≤ maxLen ∧ x2.size ≤ maxLen) (hg : g < w.heap.size) (hN : TwoN g 1 2 w) :
    Calls Try.prog 47 #[.agg (rowV x0 x1 x2), .int .i64 (n : Int), .slice (some ⟨g, 0, none⟩) 2 2] w (FitPost x1 x2 (colN 1 n) (colN 2 n) w) := by
  obtain ⟨s0, s1, s2⟩ := hs
  unfold maxLen at s0 s1 s2
  have bl : Below w.heap.size w (w.alloc (.cells (rowV x0 x1 x2) 49)) := bel_new (Below.refl _ _) _
  have hN1 := hN.below hg bl
  have hR1 := RowC.new w x0 x1 x2 49
  have hCa := fun w => col_size 1 n w (by omega)
  have hCb := fun w => col_size 2 n w (by omega)
  obtain ⟨a, ha⟩ : ∃ a, a = colN 1 n := ⟨_, rfl⟩
  obtain ⟨b, hb⟩ : ∃ a, a = colN 2 n := ⟨_, rfl⟩
  rw [← ha] at hCa
  rw [← hb] at hCb
  rw [← ha, ← hb]
  clear ha hb hN hg
  unfold rowV at bl hN1 hR1
  unfold rowV
  go_enter Try.func47, Try.ntmps47
  go_wp2_with fail
  go_loopw [11] (fun i wr => ∃ k : Nat, k ≤ 2 ∧ i = .int .i64 (k : Int) ∧ FitR x1 x2 a b k ∧ TwoN g 1 2 wr ∧ RowC w.heap.size x0 x1 x2 wr ∧ Below w.heap.size w wr) (fun i _ => 2 - (intOf i).toNat)
  case atStart => exact ⟨0, by omega, rfl, .inl rfl, hN1, hR1, bl⟩
  case round =>
    clear hN1 hR1 bl
    obtain ⟨k, hk, rfl, hfit, h2, hr, hbw⟩ := hrel
    rcases hfit with rfl | ⟨rfl, hfx⟩ | ⟨rfl, hfx, hfy⟩
    · clear hk
      obtain ⟨z0, z1⟩ := id h2
      obtain ⟨c0, c1, c2, c3, c4, c5⟩ := id hr
      by_cases hf : x1.size = a
      · have hq : ((x1.size : Int) != (a : Int)) = false := by simp; omega
        have HF := Lib.hid hf
        clear hf
        go_wp2_with fail
        go_quiet ((go_at_call 39; exact Calls.quiet_of_same (hCa _)))
        go_wp2_with fail
        go_roundw
        case rel => exact ⟨1, by omega, by go_num, .inr (.inl ⟨rfl, HF.out⟩), h2, hr, below_drewN hbw _⟩
        case measure => simp [intOf]
      · have hq : ((x1.size : Int) != (a : Int)) = true := by simp; omega
        have HF := Lib.hid hf
        clear hf
        go_wp2_with fail
        go_quiet ((go_at_call 39; exact Calls.quiet_of_same (hCa _)))
        go_wp2_with fail
        go_ret
        exact FitPost.no (fun h => HF.out h.1) (below_drewN hbw _)
    · have HX := Lib.hid hfx
      clear hfx hk
      obtain ⟨z0, z1⟩ := id h2
      obtain ⟨c0, c1, c2, c3, c4, c5⟩ := id hr
      by_cases hf : x2.size = b
      · have hq : ((x2.size : Int) != (b : Int)) = false := by simp; omega
        have HF := Lib.hid hf
        clear hf
        go_wp2_with fail
        go_quiet ((go_at_call 39; exact Calls.quiet_of_same (hCb _)))
        go_wp2_with fail
        go_roundw
        case rel => exact ⟨2, by omega, by go_num, .inr (.inr ⟨rfl, HX.out, HF.out⟩), h2, hr, below_drewN hbw _⟩
        case measure => simp [intOf]
      · have hq : ((x2.size : Int) != (b : Int)) = true := by simp; omega
        have HF := Lib.hid hf
        clear hf
        go_wp2_with fail
        go_quiet ((go_at_call 39; exact Calls.quiet_of_same (hCb _)))
        go_wp2_with fail
        go_ret
        exact FitPost.no (fun h => HF.out h.2) (below_drewN hbw _)
    · have HX := Lib.hid hfx
      have HY := Lib.hid hfy
      clear hfx hfy hk
      go_wp2_with fail
      go_ret
      exact FitPost.yes ⟨HX.out, HY.out⟩ hbw
set_option maxRecDepth 100000 in
set_option maxHeartbeats 4000000 in
theorem fit_02 (x0 x1 x2 : ByteArray) (n g : Nat) (w : World) (h1 : 1 ≤ n) (hn : n ≤ 128) (hs : x0.size ≤ maxLen ∧ x1.size ≤ maxLen ∧ x2.size ≤ maxLen) (hg : g < w.heap.size) (hN : TwoN g 0 2 w) :
    Calls Try.prog 47 #[.agg (rowV x0 x1 x2), .int .i64 (n : Int), .slice (some ⟨g, 0, none⟩) 2 2] w (FitPost x0 x2 (colN 0 n) (colN 2 n) w) := by
  obtain ⟨s0, s1, s2⟩ := hs
  unfold maxLen at s0 s1 s2
  have bl : Below w.heap.size w (w.alloc (.cells (rowV x0 x1 x2) 49)) := bel_new (Below.refl _ _) _
  have hN1 := hN.below hg bl
  have hR1 := RowC.new w x0 x1 x2 49
  have hCa := fun w => col_size 0 n w (by omega)
  have hCb := fun w => col_size 2 n w (by omega)
  obtain ⟨a, ha⟩ : ∃ a, a = colN 0 n := ⟨_, rfl⟩
  obtain ⟨b, hb⟩ : ∃ a, a = colN 2 n := ⟨_, rfl⟩
  rw [← ha] at hCa
  rw [← hb] at hCb
  rw [← ha, ← hb]
  clear ha hb hN hg
  unfold rowV at bl hN1 hR1
  unfold rowV
  go_enter Try.func47, Try.ntmps47
  go_wp2_with fail
  go_loopw [11] (fun i wr => ∃ k : Nat, k ≤ 2 ∧ i = .int .i64 (k : Int) ∧ FitR x0 x2 a b k ∧ TwoN g 0 2 wr ∧ RowC w.heap.size x0 x1 x2 wr ∧ Below w.heap.size w wr) (fun i _ => 2 - (intOf i).toNat)
  case atStart => exact ⟨0, by omega, rfl, .inl rfl, hN1, hR1, bl⟩
  case round =>
    clear hN1 hR1 bl
    obtain ⟨k, hk, rfl, hfit, h2, hr, hbw⟩ := hrel
    rcases hfit with rfl | ⟨rfl, hfx⟩ | ⟨rfl, hfx, hfy⟩
    · clear hk
      obtain ⟨z0, z1⟩ := id h2
      obtain ⟨c0, c1, c2, c3, c4, c5⟩ := id hr
      by_cases hf : x0.size = a
      · have hq : ((x0.size : Int) != (a : Int)) = false := by simp; omega
        have HF := Lib.hid hf
        clear hf
        go_wp2_with fail
        go_quiet ((go_at_call 39; exact Calls.quiet_of_same (hCa _)))
        go_wp2_with fail
        go_roundw
        case rel => exact ⟨1, by omega, by go_num, .inr (.inl ⟨rfl, HF.out⟩), h2, hr, below_drewN hbw _⟩
        case measure => simp [intOf]
      · have hq : ((x0.size : Int) != (a : Int)) = true := by simp; omega
        have HF := Lib.hid hf
        clear hf
        go_wp2_with fail
        go_quiet ((go_at_call 39; exact Calls.quiet_of_same (hCa _)))
        go_wp2_with fail
        go_ret
        exact FitPost.no (fun h => HF.out h.1) (below_drewN hbw _)
    · have HX := Lib.hid hfx
      clear hfx hk
      obtain ⟨z0, z1⟩ := id h2
      obtain ⟨c0, c1, c2, c3, c4, c5⟩ := id hr
      by_cases hf : x2.size = b
      · have hq : ((x2.size : Int) != (b : Int)) = false := by simp; omega
        have HF := Lib.hid hf
        clear hf
        go_wp2_with fail
        go_quiet ((go_at_call 39; exact Calls.quiet_of_same (hCb _)))
        go_wp2_with fail
        go_roundw
        case rel => exact ⟨2, by omega, by go_num, .inr (.inr ⟨rfl, HX.out, HF.out⟩), h2, hr, below_drewN hbw _⟩
        case measure => simp [intOf]
      · have hq : ((x2.size : Int) != (b : Int)) = true := by simp; omega
        have HF := Lib.hid hf
        clear hf
        go_wp2_with fail
        go_quiet ((go_at_call 39; exact Calls.quiet_of_same (hCb _)))
        go_wp2_with fail
        go_ret
        exact FitPost.no (fun h => HF.out h.2) (below_drewN hbw _)
    · have HX := Lib.hid hfx
      have HY := Lib.hid hfy
      clear hfx hfy hk
      go_wp2_with fail
      go_ret
      exact FitPost.yes ⟨HX.out, HY.out⟩ hbw
end Go.Proofs.Ytohfadgbmlfcmaa
