/-
  StripeJoin of the program.
-/
import Derived.Test.YtohfadgbmlfcmaaJoinI
import Derived.LoopN
namespace Go.Proofs.Ytohfadgbmlfcmaa
open Go.RowKit

theorem ways_any (w : World) : Calls Try.prog 33 #[] w fun r w' => r = .returned (.slice (some ⟨w.heap.size, 0, none⟩) 3 3) ∧ w' = w.alloc (.cells #[.func (.func 42) #[] #[], .func (.func 43) #[] #[], .func (.func 44) #[] #[]] 51) := by
  go_enter Try.func33, Try.ntmps33
  go_wp2
  go_ret
  exact ⟨rfl, rfl⟩

set_option maxRecDepth 100000 in
set_option maxHeartbeats 4000000 in
theorem impl_join_a (b off c : Nat) (x0 x1 x2 : ByteArray) (n : Nat) (w : World) (h1 : 1 ≤ n) (h2 : n ≤ 128) (hs : x0.size ≤ maxLen ∧ x1.size ≤ maxLen ∧ x2.size ≤ maxLen) (hA : Three w b off x0 x1 x2) :
    Calls Try.prog 17 #[.slice (some ⟨b, off, none⟩) 3 c, .int .i64 (n : Int), .int .i64 (-1)] w (JoinPost [x0, x1, x2] (n : Int) (-1) w) := by
  have hI := fun w => impl_a x0 x1 x2 n w h1 h2 hs
  have e1 := inB_yes (n := (n : Int)) (a := 1) (b := 128) (by omega) (by omega)
  have e2 := inB_yes (n := (-1)) (a := -1) (b := 1) (by omega) (by omega)
  have n0 : ∀ o, (w.alloc o).cell? ⟨b, off, none⟩ = some (.string x0) := fun o => (hA.below (bel_new (Below.refl _ _) o)).2.1
  have n1 : ∀ o, (w.alloc o).cell? ⟨b, off + 1, none⟩ = some (.string x1) := fun o => (hA.below (bel_new (Below.refl _ _) o)).2.2.1
  have n2 : ∀ o, (w.alloc o).cell? ⟨b, off + 2, none⟩ = some (.string x2) := fun o => (hA.below (bel_new (Below.refl _ _) o)).2.2.2
  obtain ⟨hlt, k0, k1, k2⟩ := hA
  clear h1 h2 hs
  go_enter Try.func17, Try.ntmps17
  go_wp2_with (go_at_call 32; refine (within_any _ _ _ _).mono ?_; rintro r w1 ⟨rfl, rfl⟩)
  clear k0 k1 k2 hlt
  refine wp_loop_rounds 4 ?_
  rw [rounds_succ]
  go_wp2_with fail
  rw [rounds_succ]
  go_wp2_with fail
  rw [rounds_succ]
  go_wp2_with fail
  rw [rounds_succ]
  go_wp2_with (first
    | (go_at_call 33; refine (ways_any _).mono ?_; rintro r w2 ⟨rfl, rfl⟩)
    | (go_at_call 42; refine (hI _).mono ?_; rintro r w3 ⟨rfl, hb3⟩))
  go_ret2
  exact ⟨rfl, bel_then (bel_new (bel_new (Below.refl _ _) _) _) hb3⟩

set_option maxRecDepth 100000 in
set_option maxHeartbeats 4000000 in
theorem impl_join_b (b off c : Nat) (x0 x1 x2 : ByteArray) (n : Nat) (w : World) (h1 : 1 ≤ n) (h2 : n ≤ 128) (hs : x0.size ≤ maxLen ∧ x1.size ≤ maxLen ∧ x2.size ≤ maxLen) (hA : Three w b off x0 x1 x2) :
    Calls Try.prog 17 #[.slice (some ⟨b, off, none⟩) 3 c, .int .i64 (n : Int), .int .i64 0] w (JoinPost [x0, x1, x2] (n : Int) 0 w) := by
  have hI := fun w => impl_b x0 x1 x2 n w h1 h2 hs
  have e1 := inB_yes (n := (n : Int)) (a := 1) (b := 128) (by omega) (by omega)
  have e2 := inB_yes (n := 0) (a := -1) (b := 1) (by omega) (by omega)
  have n0 : ∀ o, (w.alloc o).cell? ⟨b, off, none⟩ = some (.string x0) := fun o => (hA.below (bel_new (Below.refl _ _) o)).2.1
  have n1 : ∀ o, (w.alloc o).cell? ⟨b, off + 1, none⟩ = some (.string x1) := fun o => (hA.below (bel_new (Below.refl _ _) o)).2.2.1
  have n2 : ∀ o, (w.alloc o).cell? ⟨b, off + 2, none⟩ = some (.string x2) := fun o => (hA.below (bel_new (Below.refl _ _) o)).2.2.2
  obtain ⟨hlt, k0, k1, k2⟩ := hA
  clear h1 h2 hs
  go_enter Try.func17, Try.ntmps17
  go_wp2_with (go_at_call 32; refine (within_any _ _ _ _).mono ?_; rintro r w1 ⟨rfl, rfl⟩)
  clear k0 k1 k2 hlt
  refine wp_loop_rounds 4 ?_
  rw [rounds_succ]
  go_wp2_with fail
  rw [rounds_succ]
  go_wp2_with fail
  rw [rounds_succ]
  go_wp2_with fail
  rw [rounds_succ]
  go_wp2_with (first
    | (go_at_call 33; refine (ways_any _).mono ?_; rintro r w2 ⟨rfl, rfl⟩)
    | (go_at_call 43; refine (hI _).mono ?_; rintro r w3 ⟨rfl, hb3⟩))
  go_ret2
  exact ⟨rfl, bel_then (bel_new (bel_new (Below.refl _ _) _) _) hb3⟩

set_option maxRecDepth 100000 in
set_option maxHeartbeats 4000000 in
theorem impl_join_c (b off c : Nat) (x0 x1 x2 : ByteArray) (n : Nat) (w : World) (h1 : 1 ≤ n) (h2 : n ≤ 128) (hs : x0.size ≤ maxLen ∧ x1.size ≤ maxLen ∧ x2.size ≤ maxLen) (hA : Three w b off x0 x1 x2) :
    Calls Try.prog 17 #[.slice (some ⟨b, off, none⟩) 3 c, .int .i64 (n : Int), .int .i64 1] w (JoinPost [x0, x1, x2] (n : Int) 1 w) := by
  have hI := fun w => impl_c x0 x1 x2 n w h1 h2 hs
  have e1 := inB_yes (n := (n : Int)) (a := 1) (b := 128) (by omega) (by omega)
  have e2 := inB_yes (n := 1) (a := -1) (b := 1) (by omega) (by omega)
  have n0 : ∀ o, (w.alloc o).cell? ⟨b, off, none⟩ = some (.string x0) := fun o => (hA.below (bel_new (Below.refl _ _) o)).2.1
  have n1 : ∀ o, (w.alloc o).cell? ⟨b, off + 1, none⟩ = some (.string x1) := fun o => (hA.below (bel_new (Below.refl _ _) o)).2.2.1
  have n2 : ∀ o, (w.alloc o).cell? ⟨b, off + 2, none⟩ = some (.string x2) := fun o => (hA.below (bel_new (Below.refl _ _) o)).2.2.2
  obtain ⟨hlt, k0, k1, k2⟩ := hA
  clear h1 h2 hs
  go_enter Try.func17, Try.ntmps17
  go_wp2_with (go_at_call 32; refine (within_any _ _ _ _).mono ?_; rintro r w1 ⟨rfl, rfl⟩)
  clear k0 k1 k2 hlt
  refine wp_loop_rounds 4 ?_
  rw [rounds_succ]
  go_wp2_with fail
  rw [rounds_succ]
  go_wp2_with fail
  rw [rounds_succ]
  go_wp2_with fail
  rw [rounds_succ]
  go_wp2_with (first
    | (go_at_call 33; refine (ways_any _).mono ?_; rintro r w2 ⟨rfl, rfl⟩)
    | (go_at_call 44; refine (hI _).mono ?_; rintro r w3 ⟨rfl, hb3⟩))
  go_ret2
  exact ⟨rfl, bel_then (bel_new (bel_new (Below.refl _ _) _) _) hb3⟩

set_option maxRecDepth 100000 in
set_option maxHeartbeats 4000000 in
theorem impl_join_bad (A : Option Addr) (c : Nat) (ss : List ByteArray) (size lost : Int) (w : World) (hn : ss.length ≤ maxLen) (h : ¬ (ss.length = 3 ∧ (1 ≤ size ∧ size ≤ 128) ∧ (-1 ≤ lost ∧ lost ≤ 1))) :
    Calls Try.prog 17 #[.slice A ss.length c, .int .i64 size, .int .i64 lost] w (JoinPost ss size lost w) := by
  have hj := Lib.hid (joinD_no h)
  unfold maxLen at hn
  by_cases h1 : ss.length = 3
  · have hl1 : ((ss.length : Int) != 3) = false := by rw [h1]; rfl
    have hl2 : (ss.length != 3) = false := by rw [h1]; rfl
    by_cases h2 : 1 ≤ size ∧ size ≤ 128
    · have h3 : ¬ (-1 ≤ lost ∧ lost ≤ 1) := fun h3 => h ⟨h1, h2, h3⟩
      have e1 := inB_yes h2.1 h2.2
      have e2 := inB_no h3
      clear h h1 h2 h3
      go_enter Try.func17, Try.ntmps17
      go_wp2_with (go_at_call 32; refine (within_any _ _ _ _).mono ?_; rintro r w1 ⟨rfl, rfl⟩)
      go_ret2
      exact JoinPost.no hj.out (Below.refl _ _)
    · have e1 := inB_no h2
      clear h h1 h2
      go_enter Try.func17, Try.ntmps17
      go_wp2_with (go_at_call 32; refine (within_any _ _ _ _).mono ?_; rintro r w1 ⟨rfl, rfl⟩)
      go_ret2
      exact JoinPost.no hj.out (Below.refl _ _)
  · have hl1 : ((ss.length : Int) != 3) = true := by simp; omega
    have hl2 : (ss.length != 3) = true := by simp; omega
    clear h h1
    go_enter Try.func17, Try.ntmps17
    go_wp2_with fail
    go_ret2
    exact JoinPost.no hj.out (Below.refl _ _)

theorem impl_join (A : Option Addr) (c : Nat) (ss : List ByteArray) (size lost : Int) (w : World) (hn : ss.length ≤ maxLen) (hs : ∀ s ∈ ss, s.size ≤ maxLen) (hA : Lies w A (strCells ss)) :
    Calls Try.prog 17 #[.slice A ss.length c, .int .i64 size, .int .i64 lost] w (JoinPost ss size lost w) := by
  by_cases h : ss.length = 3 ∧ (1 ≤ size ∧ size ≤ 128) ∧ (-1 ≤ lost ∧ lost ≤ 1)
  · obtain ⟨h3, ⟨h1, h2⟩, hl⟩ := h
    match ss, h3 with
    | [x0, x1, x2], _ =>
      obtain ⟨n, rfl⟩ : ∃ n : Nat, size = (n : Int) := ⟨size.toNat, by omega⟩
      obtain ⟨b, off, rfl, ht⟩ := Three.of hA
      have hs' : x0.size ≤ maxLen ∧ x1.size ≤ maxLen ∧ x2.size ≤ maxLen := ⟨hs x0 (by simp), hs x1 (by simp), hs x2 (by simp)⟩
      rcases (show lost = -1 ∨ lost = 0 ∨ lost = 1 by omega) with rfl | rfl | rfl
      · exact impl_join_a b off c x0 x1 x2 n w (by omega) (by omega) hs' ht
      · exact impl_join_b b off c x0 x1 x2 n w (by omega) (by omega) hs' ht
      · exact impl_join_c b off c x0 x1 x2 n w (by omega) (by omega) hs' ht
  · exact impl_join_bad A c ss size lost w hn h
end Go.Proofs.Ytohfadgbmlfcmaa
