/-
  Zero bytes behind a piece, both sides.
-/
import Derived.Test.YtehmaacbmkfedaaDoorPutI
import Derived.Test.YtehmaacbmkfedaaDoorShelf
import Derived.ProofKit
namespace Go.Proofs.YtehmaacbmkfedaaDoor
open Go.RowKit

def zeroB (n : Nat) : List UInt8 := List.replicate n 0
theorem zeroB_len (n : Nat) : (zeroB n).length = n := by simp [zeroB]
theorem rep_zero (n : Nat) : Lib.repeatL [0] n = zeroB n := by
  unfold zeroB
  induction n with
  | zero => rfl
  | succ n ih => rw [Lib.repeatL, ih, List.replicate_succ]; rfl
theorem zero_cells (n : Nat) : (madeCells (Value.cells (.int .u8 0)) (n * 1)).toList = cellsOf (zeroB n) := by
  apply List.ext_getElem
  · simp [madeCells, cellsOf, zeroB]
  · intro i h1 h2
    simp [madeCells, cellsOf, zeroB, Value.cells]
    rw [Nat.mod_one]
    rfl

set_option maxHeartbeats 1000000 in
theorem s_zeros (n : Nat) (hn : n ≤ 12) (w : World) : Calls Tryd.prog 36 #[.int .i64 (n : Int)] w fun e w' => e = .returned (.string (strOf (zeroB n))) ∧ Below w.heap.size w w' := by
  obtain ⟨i0, hi, hz0, hz1, hz2⟩ := info_parts Tryd.info5
  rcases Nat.eq_zero_or_pos n with h | h
  · subst h
    go_enter Tryd.func36, Tryd.ntmps36
    go_wp2_with (refine wpList_make_full _ rfl _ _ 42 rfl w.heap.size 5 i0 (.int .u8 0) 1 Tryd.underlying42 hi hz0 hz1 _ _ _ _ 0 rfl rfl rfl rfl (by rw [hz2]; omega) (by unfold maxLen; omega) (Nat.le_refl _) ?_; intro w1 hown hgrow; rw [zero_cells] at hown; have hc := conv_own hown)
    go_ret
    exact ⟨rfl, (Below.refl _ _).grown hgrow (Nat.le_refl _) (fun k e => by cases e)⟩
  · have h1 : (0 : Int) < (n : Int) := by omega
    go_enter Tryd.func36, Tryd.ntmps36
    go_wp2_with (refine wpList_make_full _ rfl _ _ 42 rfl w.heap.size 5 i0 (.int .u8 0) 1 Tryd.underlying42 hi hz0 hz1 _ _ _ _ n rfl rfl rfl rfl (by rw [hz2]; omega) (by unfold maxLen; omega) (Nat.le_refl _) ?_; intro w1 hown hgrow; rw [zero_cells] at hown; have hc := conv_own hown)
    go_ret
    exact ⟨rfl, (Below.refl _ _).grown hgrow (Nat.le_refl _) (fun k e => by cases e)⟩
theorem i_repeat (n : Nat) (hn : n ≤ 12) (w : World) : Calls Tryd.prog 39 #[.string ⟨#[0]⟩, .int .i64 (n : Int)] w fun e w' => e = .returned (.string (strOf (zeroB n))) ∧ Below w.heap.size w w' :=
  (Tryd.strings_Repeat ⟨#[0]⟩ n w (by omega) (by simp [ByteArray.size]; omega)).mono fun e w' ⟨h1, h2⟩ => ⟨by rw [h1, show (⟨#[0]⟩ : ByteArray).data.toList = [0] from rfl, rep_zero]; rfl, h2⟩

/-- What filling a piece up answers. -/
def fillB (s : ByteArray) (n : Int) : ByteArray × Bool := if (0 ≤ n ∧ n ≤ 12) ∧ (s.size : Int) ≤ n then (s ++ strOf (zeroB (n.toNat - s.size)), true) else (⟨#[]⟩, false)
theorem fillB_yes {s : ByteArray} {n : Nat} (h : n ≤ 12) (h2 : s.size ≤ n) : fillB s (n : Int) = (s ++ strOf (zeroB (n - s.size)), true) := by
  unfold fillB
  rw [if_pos ⟨⟨by omega, by omega⟩, by omega⟩, Int.toNat_natCast]
theorem fillB_out {s : ByteArray} {n : Int} (h : ¬ (0 ≤ n ∧ n ≤ 12)) : fillB s n = (⟨#[]⟩, false) := if_neg fun e => h e.1
theorem fillB_long {s : ByteArray} {n : Int} (h : n < (s.size : Int)) : fillB s n = (⟨#[]⟩, false) := if_neg fun e => by omega

def FillPost (r : ByteArray × Bool) (w : World) (e : Ending) (w' : World) : Prop := e = .returned (.tuple #[.string r.1, .bool r.2]) ∧ Below w.heap.size w w'

set_option maxHeartbeats 1000000 in
theorem s_fill (s : ByteArray) (n : Int) (w : World) (hs : s.size ≤ maxLen) : Calls Tryd.prog 19 #[.string s, .int .i64 n] w (FillPost (fillB s n) w) := by
  unfold maxLen at hs
  by_cases h : 0 ≤ n ∧ n ≤ 12
  · have hI := fun w => s_in n 0 12 w
    rw [inB_yes h] at hI
    by_cases h2 : n < (s.size : Int)
    · rw [fillB_long h2]
      go_enter Tryd.func19, Tryd.ntmps19
      go_wp2_with (go_at_call 40; refine (hI _).mono ?_; rintro r w' ⟨rfl, rfl⟩)
      go_ret2
      exact ⟨rfl, Below.refl _ _⟩
    · obtain ⟨m, rfl⟩ : ∃ m : Nat, n = (m : Int) := ⟨n.toNat, by omega⟩
      have hm : m ≤ 12 := by omega
      have hsm : s.size ≤ m := by omega
      rw [fillB_yes hm hsm]
      have hZ := fun w => s_zeros (m - s.size) (by omega) w
      rw [show ((m - s.size : Nat) : Int) = (m : Int) - (s.size : Int) by omega] at hZ
      have hzl : (strOf (zeroB (m - s.size))).size = m - s.size := by rw [strOf_size, zeroB_len]
      generalize strOf (zeroB (m - s.size)) = Z at hZ hzl
      have hA := fun w : World => run_string_add_sum (P := Tryd.prog) w s Z (by omega)
      clear h hzl
      go_enter Tryd.func19, Tryd.ntmps19
      go_wp2_with (first | (go_at_call 40; refine (hI _).mono ?_; rintro r w' ⟨rfl, rfl⟩) | (go_at_call 36; refine (hZ _).mono ?_; rintro r w' ⟨rfl, hb⟩))
      go_ret2
      exact ⟨rfl, hb⟩
  · rw [fillB_out h]
    have hI := fun w => s_in n 0 12 w
    rw [inB_no h] at hI
    clear h
    go_enter Tryd.func19, Tryd.ntmps19
    go_wp2_with (go_at_call 40; refine (hI _).mono ?_; rintro r w' ⟨rfl, rfl⟩)
    go_ret2
    exact ⟨rfl, Below.refl _ _⟩

set_option maxHeartbeats 1000000 in
theorem i_fill (s : ByteArray) (n : Int) (w : World) (hs : s.size ≤ maxLen) : Calls Tryd.prog 17 #[.string s, .int .i64 n] w (FillPost (fillB s n) w) := by
  unfold maxLen at hs
  by_cases h : 0 ≤ n ∧ n ≤ 12
  · have hI := fun w => i_in n 0 12 w
    rw [inB_yes h] at hI
    by_cases h2 : n < (s.size : Int)
    · rw [fillB_long h2]
      go_enter Tryd.func17, Tryd.ntmps17
      go_wp2_with (go_at_call 38; refine (hI _).mono ?_; rintro r w' ⟨rfl, rfl⟩)
      go_ret2
      exact ⟨rfl, Below.refl _ _⟩
    · obtain ⟨m, rfl⟩ : ∃ m : Nat, n = (m : Int) := ⟨n.toNat, by omega⟩
      have hm : m ≤ 12 := by omega
      have hsm : s.size ≤ m := by omega
      rw [fillB_yes hm hsm]
      have hZ := fun w => i_repeat (m - s.size) (by omega) w
      rw [show ((m - s.size : Nat) : Int) = (m : Int) - (s.size : Int) by omega] at hZ
      have hzl : (strOf (zeroB (m - s.size))).size = m - s.size := by rw [strOf_size, zeroB_len]
      generalize strOf (zeroB (m - s.size)) = Z at hZ hzl
      have hA := fun w : World => run_string_add_sum (P := Tryd.prog) w s Z (by omega)
      clear h hzl
      go_enter Tryd.func17, Tryd.ntmps17
      go_wp2_with (first | (go_at_call 38; refine (hI _).mono ?_; rintro r w' ⟨rfl, rfl⟩) | (go_at_call 39; refine (hZ _).mono ?_; rintro r w' ⟨rfl, hb⟩))
      go_ret2
      exact ⟨rfl, hb⟩
  · rw [fillB_out h]
    have hI := fun w => i_in n 0 12 w
    rw [inB_no h] at hI
    clear h
    go_enter Tryd.func17, Tryd.ntmps17
    go_wp2_with (go_at_call 38; refine (hI _).mono ?_; rintro r w' ⟨rfl, rfl⟩)
    go_ret2
    exact ⟨rfl, Below.refl _ _⟩
end Go.Proofs.YtehmaacbmkfedaaDoor
