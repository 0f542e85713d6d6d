/-
  StripeJoin of the model, by one of the ways.
-/
import Derived.Test.YtohfadgbmlfcmaaJoinH
namespace Go.Proofs.Ytohfadgbmlfcmaa
open Go.RowKit

set_option maxRecDepth 100000 in
set_option maxHeartbeats 4000000 in
theorem spec_b (b off c : Nat) (x0 x1 x2 : ByteArray) (n : Nat) (w : World) (h1 : 1 ≤ n) (h2 : n ≤ 128) (hs : x0.size ≤ maxLen ∧ x1.size ≤ maxLen ∧ x2.size ≤ maxLen) (hA : Three w b off x0 x1 x2) :
    Calls Try.prog 15 #[.slice (some ⟨b, off, none⟩) 3 c, .int .i64 (n : Int), .int .i64 0] w (JoinPost [x0, x1, x2] (n : Int) 0 w) := by
  obtain ⟨s0, s1, s2⟩ := hs
  unfold maxLen at s0 s1 s2
  have hA2 := hA
  obtain ⟨hlt, k0, k1, k2⟩ := hA
  have hM : (n : Int) - ((half n : Nat) : Int) = ((n - half n : Nat) : Int) := by have := half_le n; omega
  have hH := fun w => half_is n w (by omega)
  have hhl := half_le n
  have hhn : half n ≤ 64 := by unfold half; omega
  have e1 := inB_yes (n := (n : Int)) (a := 1) (b := 128) (by omega) (by omega)
  have e2 := inB_yes (n := 0) (a := -1) (b := 1) (by omega) (by omega)
  have hw1 := IntWalk.i64_in ((n : Int) - ((half n : Nat) : Int)) (by omega)
  have hMb : (n - half n : Nat) ≤ 64 := by unfold half; omega
  have hwM : wrap64 ((n : Int) - ((half n : Nat) : Int)) = ((n - half n : Nat) : Int) := by simp only [wrap64]; omega
  obtain ⟨H, hHe⟩ : ∃ H, H = half n := ⟨_, rfl⟩
  obtain ⟨M, hMe⟩ : ∃ M, M = n - half n := ⟨_, rfl⟩
  by_cases fi : x1.size = n - half n
  · by_cases fj : x2.size = half n
    · have hj := Lib.hid (way_b (x0 := x0) h1 h2 fi fj)
      have q1 : ((x1.size : Int) == ((n - half n : Nat) : Int)) = true := beq_iff_eq.2 (by omega)
      have q2 : ((x2.size : Int) == ((half n : Nat) : Int)) = true := beq_iff_eq.2 (by omega)
      have hO := fun w => l4_other x1 x2 (half n) w (by omega) (by omega) (by unfold maxLen; omega)
      have hadd := fun w => run_string_add_sum (P := Try.prog) w (strOf (mixL x2.data.toList x1.data.toList (half n))) x1 (by rw [strOf_size, mixL_len]; omega)
      simp only [← hMe] at hM hH hw1 hwM q1 q2 hO hadd hj
      simp only [← hHe] at hM hH hw1 hwM q1 q2 hO hadd hj
      clear hHe hMe hMb hM hw1 fi fj h1 h2 hhl hhn
      go_enter Try.func15, Try.ntmps15
      go_wp2_with (first
        | (go_at_call 29; refine (in_any _ _ _ _).mono ?_; rintro r w1 ⟨rfl, rfl⟩)
        | (go_at_call 30; refine (hH _).mono ?_; rintro r w3 ⟨rfl, rfl⟩))
      have hA3 : Three w3.drew b off x0 x1 x2 := hA2
      have hT3 := hA3.cells
      go_region_held3 (fun W => W.cell? ⟨b, off, none⟩ = some (.string x0) ∧ W.cell? ⟨b, off + 1, none⟩ = some (.string x1) ∧ W.cell? ⟨b, off + 2, none⟩ = some (.string x2))
        ((show ThreeC b off x0 x1 x2 _; with_reducible (first | exact hT3 | exact hT4)))
        (first
          | (go_at_call 31; refine (hO _).mono ?_; rintro r w4 ⟨rfl, hb4⟩; have hT4 := (hA3.below hb4).cells))
      all_goals go_wp2_with fail
      all_goals go_ret2
      all_goals exact JoinPost.yes hj.out (bel_then (Below.refl _ _).drew hb4)
    · have hj := Lib.hid (way_b_no (x0 := x0) (x1 := x1) (x2 := x2) h1 h2 (fun h => fj h.2))
      have q1 : ((x1.size : Int) == ((n - half n : Nat) : Int)) = true := beq_iff_eq.2 (by omega)
      have q2 : ((x2.size : Int) == ((half n : Nat) : Int)) = false := beq_eq_false_iff_ne.2 (by omega)
      simp only [← hMe] at hM hH hw1 hwM q1 q2
      simp only [← hHe] at hM hH hw1 hwM q1 q2
      clear hHe hMe hMb hM hw1 fi fj h1 h2 hhl hhn hA2
      go_enter Try.func15, Try.ntmps15
      go_wp2_with (first
        | (go_at_call 29; refine (in_any _ _ _ _).mono ?_; rintro r w1 ⟨rfl, rfl⟩)
        | (go_at_call 30; refine (hH _).mono ?_; rintro r w3 ⟨rfl, rfl⟩))
      all_goals go_ret2
      all_goals exact JoinPost.no hj.out (Below.refl _ _)
  · have hj := Lib.hid (way_b_no (x0 := x0) (x1 := x1) (x2 := x2) h1 h2 (fun h => fi h.1))
    have q2 : ((x1.size : Int) == ((n - half n : Nat) : Int)) = false := beq_eq_false_iff_ne.2 (by omega)
    simp only [← hMe] at hM hH hw1 hwM q2
    simp only [← hHe] at hM hH hw1 hwM q2
    clear hHe hMe hMb hM hw1 fi h1 h2 hhl hhn hA2
    go_enter Try.func15, Try.ntmps15
    go_wp2_with (first
      | (go_at_call 29; refine (in_any _ _ _ _).mono ?_; rintro r w1 ⟨rfl, rfl⟩)
      | (go_at_call 30; refine (hH _).mono ?_; rintro r w3 ⟨rfl, rfl⟩))
    all_goals go_ret2
    all_goals exact JoinPost.no hj.out (Below.refl _ _)
end Go.Proofs.Ytohfadgbmlfcmaa
