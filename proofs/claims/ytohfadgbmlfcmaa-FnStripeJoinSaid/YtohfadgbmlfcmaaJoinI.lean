/-
  The program's ways to join columns.
-/
import Derived.Test.YtohfadgbmlfcmaaFitI
namespace Go.Proofs.Ytohfadgbmlfcmaa
open Go.RowKit

theorem colN_0 (n : Nat) : colN 0 n = half n := rfl
theorem colN_2 (n : Nat) : colN 2 n = half n := rfl
theorem colN_1 (n : Nat) : colN 1 n = n - half n := by
  show n / 2 = _
  unfold half
  omega
/-- The row of a way, boxed, and the numbers that it asks of. -/
def rowW (w : World) (x0 x1 x2 : ByteArray) (i j : Int) : World := (w.alloc (.cells #[.string x0, .bool true, .string x1, .bool true, .string x2, .bool true] 49)).alloc (.cells #[.int .i64 i, .int .i64 j] 3)
theorem rowW_bel (w : World) (x0 x1 x2 : ByteArray) (i j : Int) : Below w.heap.size w (rowW w x0 x1 x2 i j) := bel_new (bel_new (Below.refl _ _) _) _
theorem rowW_two (w : World) (x0 x1 x2 : ByteArray) (i j : Int) : TwoN (w.heap.size + 1) i j (rowW w x0 x1 x2 i j) := by
  have h := TwoN.new (w.alloc (.cells #[.string x0, .bool true, .string x1, .bool true, .string x2, .bool true] 49)) i j 3
  rw [World.size_alloc] at h
  exact h
theorem rowW_size (w : World) (x0 x1 x2 : ByteArray) (i j : Int) : (rowW w x0 x1 x2 i j).heap.size = w.heap.size + 2 := by
  unfold rowW
  rw [World.size_alloc, World.size_alloc]
theorem rowW_row (w : World) (x0 x1 x2 : ByteArray) (i j : Int) : RowC w.heap.size x0 x1 x2 (rowW w x0 x1 x2 i j) :=
  (RowC.new w x0 x1 x2 49).below (by rw [World.size_alloc]; omega) (bel_new (Below.refl _ _) _)
set_option maxRecDepth 100000 in
set_option maxHeartbeats 4000000 in
theorem impl_a (x0 x1 x2 : ByteArray) (n : Nat) (w : World) (h1 : 1 ≤ n) (h2 : n ≤ 128) (hs : x0.size ≤ maxLen ∧ x1.size ≤ maxLen ∧ x2.size ≤ maxLen) :
    Calls Try.prog 42 #[.agg #[.string x0, .bool true, .string x1, .bool true, .string x2, .bool true], .int .i64 (n : Int)] w (JoinPost [x0, x1, x2] (n : Int) (-1) w) := by
  have hF := fit_01 x0 x1 x2 n (w.heap.size + 1) (rowW w x0 x1 x2 0 1) h1 h2 hs (by rw [rowW_size]; omega) (rowW_two w x0 x1 x2 0 1)
  rw [colN_0, colN_1] at hF
  have hR := rowW_row w x0 x1 x2 0 1
  have hB := rowW_bel w x0 x1 x2 0 1
  have hz := rowW_size w x0 x1 x2 0 1
  have hhl := half_le n
  have hhn : half n ≤ 64 := by unfold half; omega
  have hmh : n - half n ≤ half n := by unfold half; omega
  by_cases hf : x0.size = half n ∧ x1.size = n - half n
  · have hF2 : Calls Try.prog 47 #[.agg (rowV x0 x1 x2), .int .i64 (n : Int), .slice (some ⟨w.heap.size + 1, 0, none⟩) 2 2] (rowW w x0 x1 x2 0 1) fun r w' => r = .returned (.bool true) ∧ Below (rowW w x0 x1 x2 0 1).heap.size (rowW w x0 x1 x2 0 1) w' :=
      hF.mono fun r w' ⟨he, hb⟩ => ⟨by rw [he, decide_eq_true hf], hb⟩
    have hj := Lib.hid (way_a (x0 := x0) (x1 := x1) (x2 := x2) h1 h2 hf.1 hf.2)
    have HF := Lib.hid hf
    obtain ⟨s0, s1, s2⟩ := hs
    unfold maxLen at s0 s1 s2
    unfold rowV at hF2
    have HZ := Lib.hid hz
    clear hF hf hz
    have hadd := fun w => run_string_add_sum (P := Try.prog) w x0 x1 (by have := HF.out; omega)
    obtain ⟨W, hW⟩ : ∃ W, W = rowW w x0 x1 x2 0 1 := ⟨_, rfl⟩
    go_enter Try.func42, Try.ntmps42
    go_wp2_with (go_at_call 47; refine hF2.mono ?_; rintro r w3 ⟨rfl, hb3⟩; refine Hid.out ?_)
    refine Lib.hid ?_
    have hR3 := hR.below (by have := HZ.out; omega) hb3
    have B3 := bel_then hB hb3
    clear hR hB hF2 hb3 hW
    obtain ⟨c0, c1, c2, c3, c4, c5⟩ := hR3
    clear hhl hhn hmh
    go_wp2_with fail
    go_ret2
    exact JoinPost.yes hj.out B3
  · have hF2 : Calls Try.prog 47 #[.agg (rowV x0 x1 x2), .int .i64 (n : Int), .slice (some ⟨w.heap.size + 1, 0, none⟩) 2 2] (rowW w x0 x1 x2 0 1) fun r w' => r = .returned (.bool false) ∧ Below (rowW w x0 x1 x2 0 1).heap.size (rowW w x0 x1 x2 0 1) w' :=
      hF.mono fun r w' ⟨he, hb⟩ => ⟨by rw [he, decide_eq_false hf], hb⟩
    have hj := Lib.hid (way_a_no (x0 := x0) (x1 := x1) (x2 := x2) h1 h2 hf)
    unfold rowV at hF2
    clear hF hf hs hR hz hhl hhn hmh
    unfold rowW at hF2 hB
    go_enter Try.func42, Try.ntmps42
    go_wp2_with (go_at_call 47; refine hF2.mono ?_; rintro r w3 ⟨rfl, hb3⟩)
    go_ret2
    exact JoinPost.no hj.out (bel_then hB hb3)
set_option maxRecDepth 100000 in
set_option maxHeartbeats 4000000 in
theorem impl_b (x0 x1 x2 : ByteArray) (n : Nat) (w : World) (h1 : 1 ≤ n) (h2 : n ≤ 128) (hs : x0.size ≤ maxLen ∧ x1.size ≤ maxLen ∧ x2.size ≤ maxLen) :
    Calls Try.prog 43 #[.agg #[.string x0, .bool true, .string x1, .bool true, .string x2, .bool true], .int .i64 (n : Int)] w (JoinPost [x0, x1, x2] (n : Int) 0 w) := by
  have hF := fit_12 x0 x1 x2 n (w.heap.size + 1) (rowW w x0 x1 x2 1 2) h1 h2 hs (by rw [rowW_size]; omega) (rowW_two w x0 x1 x2 1 2)
  rw [colN_1, colN_2] at hF
  have hR := rowW_row w x0 x1 x2 1 2
  have hB := rowW_bel w x0 x1 x2 1 2
  have hz := rowW_size w x0 x1 x2 1 2
  have hhl := half_le n
  have hhn : half n ≤ 64 := by unfold half; omega
  have hmh : n - half n ≤ half n := by unfold half; omega
  by_cases hf : x1.size = n - half n ∧ x2.size = half n
  · have hF2 : Calls Try.prog 47 #[.agg (rowV x0 x1 x2), .int .i64 (n : Int), .slice (some ⟨w.heap.size + 1, 0, none⟩) 2 2] (rowW w x0 x1 x2 1 2) fun r w' => r = .returned (.bool true) ∧ Below (rowW w x0 x1 x2 1 2).heap.size (rowW w x0 x1 x2 1 2) w' :=
      hF.mono fun r w' ⟨he, hb⟩ => ⟨by rw [he, decide_eq_true hf], hb⟩
    have hj := Lib.hid (way_b (x0 := x0) (x1 := x1) (x2 := x2) h1 h2 hf.1 hf.2)
    have HF := Lib.hid hf
    obtain ⟨s0, s1, s2⟩ := hs
    unfold maxLen at s0 s1 s2
    unfold rowV at hF2
    have HZ := Lib.hid hz
    clear hF hf hz
    have hM := fun w => impl_mixed x2 x1 (half n) w (by omega) (by unfold maxLen; omega) (by unfold maxLen; omega)
    have hC := fun w => col_size 0 n w (by omega)
    rw [colN_0] at hC
    have hadd := fun w => run_string_add_sum (P := Try.prog) w (strOf (mixL x2.data.toList x1.data.toList (half n))) x1 (by have := HF.out; rw [strOf_size, mixL_len]; omega)
    obtain ⟨K, hK⟩ : ∃ K, K = half n := ⟨_, rfl⟩
    simp only [← hK] at hM hC hadd hj
    obtain ⟨W, hW⟩ : ∃ W, W = rowW w x0 x1 x2 1 2 := ⟨_, rfl⟩
    go_enter Try.func43, Try.ntmps43
    go_wp2_with (go_at_call 47; refine hF2.mono ?_; rintro r w3 ⟨rfl, hb3⟩; refine Hid.out ?_)
    refine Lib.hid ?_
    have hR3 := hR.below (by have := HZ.out; omega) hb3
    have B3 := bel_then hB hb3
    clear hR hB hF2 hb3 hW
    obtain ⟨c0, c1, c2, c3, c4, c5⟩ := hR3
    clear hK hhl hhn hmh
    go_wp2_with fail
    first
      | go_region_with (first
        | (go_at_call 39; refine (hC _).mono ?_; rintro r w4 ⟨rfl, rfl⟩)
        | (go_at_call 41; refine (hM _).mono ?_; rintro r w5 ⟨rfl, hb5⟩))
      | go_outline
    all_goals go_wp2_with fail
    all_goals go_ret2
    all_goals exact JoinPost.yes hj.out (bel_then B3.drew hb5)
  · have hF2 : Calls Try.prog 47 #[.agg (rowV x0 x1 x2), .int .i64 (n : Int), .slice (some ⟨w.heap.size + 1, 0, none⟩) 2 2] (rowW w x0 x1 x2 1 2) fun r w' => r = .returned (.bool false) ∧ Below (rowW w x0 x1 x2 1 2).heap.size (rowW w x0 x1 x2 1 2) w' :=
      hF.mono fun r w' ⟨he, hb⟩ => ⟨by rw [he, decide_eq_false hf], hb⟩
    have hj := Lib.hid (way_b_no (x0 := x0) (x1 := x1) (x2 := x2) h1 h2 hf)
    unfold rowV at hF2
    clear hF hf hs hR hz hhl hhn hmh
    unfold rowW at hF2 hB
    go_enter Try.func43, Try.ntmps43
    go_wp2_with (go_at_call 47; refine hF2.mono ?_; rintro r w3 ⟨rfl, hb3⟩)
    go_ret2
    exact JoinPost.no hj.out (bel_then hB hb3)
set_option maxRecDepth 100000 in
set_option maxHeartbeats 4000000 in
theorem impl_c (x0 x1 x2 : ByteArray) (n : Nat) (w : World) (h1 : 1 ≤ n) (h2 : n ≤ 128) (hs : x0.size ≤ maxLen ∧ x1.size ≤ maxLen ∧ x2.size ≤ maxLen) :
    Calls Try.prog 44 #[.agg #[.string x0, .bool true, .string x1, .bool true, .string x2, .bool true], .int .i64 (n : Int)] w (JoinPost [x0, x1, x2] (n : Int) 1 w) := by
  have hF := fit_02 x0 x1 x2 n (w.heap.size + 1) (rowW w x0 x1 x2 0 2) h1 h2 hs (by rw [rowW_size]; omega) (rowW_two w x0 x1 x2 0 2)
  rw [colN_0, colN_2] at hF
  have hR := rowW_row w x0 x1 x2 0 2
  have hB := rowW_bel w x0 x1 x2 0 2
  have hz := rowW_size w x0 x1 x2 0 2
  have hhl := half_le n
  have hhn : half n ≤ 64 := by unfold half; omega
  have hmh : n - half n ≤ half n := by unfold half; omega
  by_cases hf : x0.size = half n ∧ x2.size = half n
  · have hF2 : Calls Try.prog 47 #[.agg (rowV x0 x1 x2), .int .i64 (n : Int), .slice (some ⟨w.heap.size + 1, 0, none⟩) 2 2] (rowW w x0 x1 x2 0 2) fun r w' => r = .returned (.bool true) ∧ Below (rowW w x0 x1 x2 0 2).heap.size (rowW w x0 x1 x2 0 2) w' :=
      hF.mono fun r w' ⟨he, hb⟩ => ⟨by rw [he, decide_eq_true hf], hb⟩
    have hj := Lib.hid (way_c (x0 := x0) (x1 := x1) (x2 := x2) h1 h2 hf.1 hf.2)
    have HF := Lib.hid hf
    obtain ⟨s0, s1, s2⟩ := hs
    unfold maxLen at s0 s1 s2
    unfold rowV at hF2
    have HZ := Lib.hid hz
    clear hF hf hz
    have hM := fun w => impl_mixed x2 x0 (n - half n) w (by omega) (by unfold maxLen; omega) (by unfold maxLen; omega)
    have hC := fun w => col_size 1 n w (by omega)
    rw [colN_1] at hC
    have hadd := fun w => run_string_add_sum (P := Try.prog) w x0 (strOf (mixL x2.data.toList x0.data.toList (n - half n))) (by have := HF.out; rw [strOf_size, mixL_len]; omega)
    obtain ⟨K, hK⟩ : ∃ K, K = n - half n := ⟨_, rfl⟩
    simp only [← hK] at hM hC hadd hj
    obtain ⟨W, hW⟩ : ∃ W, W = rowW w x0 x1 x2 0 2 := ⟨_, rfl⟩
    go_enter Try.func44, Try.ntmps44
    go_wp2_with (go_at_call 47; refine hF2.mono ?_; rintro r w3 ⟨rfl, hb3⟩; refine Hid.out ?_)
    refine Lib.hid ?_
    have hR3 := hR.below (by have := HZ.out; omega) hb3
    have B3 := bel_then hB hb3
    clear hR hB hF2 hb3 hW
    obtain ⟨c0, c1, c2, c3, c4, c5⟩ := hR3
    clear hK hhl hhn hmh
    go_wp2_with fail
    first
      | go_region_with (first
        | (go_at_call 39; refine (hC _).mono ?_; rintro r w4 ⟨rfl, rfl⟩)
        | (go_at_call 41; refine (hM _).mono ?_; rintro r w5 ⟨rfl, hb5⟩))
      | go_outline
    all_goals go_wp2_with fail
    all_goals go_ret2
    all_goals exact JoinPost.yes hj.out (bel_then B3.drew hb5)
  · have hF2 : Calls Try.prog 47 #[.agg (rowV x0 x1 x2), .int .i64 (n : Int), .slice (some ⟨w.heap.size + 1, 0, none⟩) 2 2] (rowW w x0 x1 x2 0 2) fun r w' => r = .returned (.bool false) ∧ Below (rowW w x0 x1 x2 0 2).heap.size (rowW w x0 x1 x2 0 2) w' :=
      hF.mono fun r w' ⟨he, hb⟩ => ⟨by rw [he, decide_eq_false hf], hb⟩
    have hj := Lib.hid (way_c_no (x0 := x0) (x1 := x1) (x2 := x2) h1 h2 hf)
    unfold rowV at hF2
    clear hF hf hs hR hz hhl hhn hmh
    unfold rowW at hF2 hB
    go_enter Try.func44, Try.ntmps44
    go_wp2_with (go_at_call 47; refine hF2.mono ?_; rintro r w3 ⟨rfl, hb3⟩)
    go_ret2
    exact JoinPost.no hj.out (bel_then hB hb3)
end Go.Proofs.Ytohfadgbmlfcmaa
