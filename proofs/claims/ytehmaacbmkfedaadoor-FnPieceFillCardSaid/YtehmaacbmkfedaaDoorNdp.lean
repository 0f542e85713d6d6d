/-
  How deep a tree is, both ways.
-/
import Derived.Test.YtehmaacbmkfedaaDoorNim
namespace Go.Proofs.YtehmaacbmkfedaaDoor
open Go.RowKit

theorem spec_depth (m : Int) (w : World) : Calls Tryd.prog 42 #[.int .i64 m] w fun e w' => e = .returned (.int .i64 (depthOf m : Int)) ∧ w' = w := by
  unfold depthOf
  by_cases h1 : m ≤ 1
  · rw [if_pos h1]
    go_enter Tryd.func42, Tryd.ntmps42
    go_wp2
    go_ret
    exact ⟨rfl, rfl⟩
  · rw [if_neg h1]
    by_cases h4 : m ≤ 4
    · rw [if_pos h4]
      go_enter Tryd.func42, Tryd.ntmps42
      go_wp2
      go_ret
      exact ⟨rfl, rfl⟩
    · rw [if_neg h4]
      go_enter Tryd.func42, Tryd.ntmps42
      go_wp2
      go_ret
      exact ⟨rfl, rfl⟩

set_option maxRecDepth 100000 in
theorem impl_wide (l : Nat) (hl : l ≤ 2) (w : World) : Calls Tryd.prog 88 #[.int .i64 (l : Int)] w fun e w' => e = .returned (.int .i64 ((4 ^ l : Nat) : Int)) ∧ w' = w := by
  go_enter Tryd.func88, Tryd.ntmps88
  go_wp2
  go_loop [3, 5] (fun x i => ∃ k : Nat, k ≤ l ∧ i = .int .i64 k ∧ x = .int .i64 ((4 ^ k : Nat) : Int)) (fun _ i => l - (intOf i).toNat)
  case atStart => exact ⟨0, by omega, rfl, rfl⟩
  case round =>
    obtain ⟨k, hk, rfl, rfl⟩ := hrel
    by_cases hlt : k < l
    · have hlt' : (k : Int) < (l : Int) := by omega
      obtain ⟨z, hz⟩ : ∃ z : Int, z = ((4 ^ k : Nat) : Int) := ⟨_, rfl⟩
      have HN : Hid (((4 ^ (k + 1) : Nat) : Int) = z * 4) := Lib.hid (by rw [hz, Nat.pow_succ]; first | done | rfl)
      have hzb : 0 ≤ z ∧ z ≤ 4 := by rcases (show k = 0 ∨ k = 1 by omega) with rfl | rfl <;> simp [hz]
      rw [← hz]
      clear hz
      go_wp2
      go_round
      case rel => exact ⟨k + 1, by omega, by go_num, by rw [HN.out] <;> go_num⟩
      case measure => (simp [intOf]; try omega)
    · obtain rfl : k = l := by omega
      go_wp2
      go_ret
      exact ⟨rfl, rfl⟩

set_option maxRecDepth 100000 in
theorem impl_depth (m : Int) (hm : 0 ≤ m ∧ m ≤ 16) (w : World) : Calls Tryd.prog 71 #[.int .i64 m] w fun e w' => e = .returned (.int .i64 (depthOf m : Int)) ∧ w' = w := by
  have hd := depthOf_le m
  have hlow : ∀ k : Nat, k < depthOf m → ((4 ^ k : Nat) : Int) < m := fun k hk => by
    unfold depthOf at hk
    split at hk
    · omega
    · split at hk
      · rcases (show k = 0 by omega) with rfl; simp only [Nat.pow_zero]; omega
      · rcases (show k = 0 ∨ k = 1 by omega) with rfl | rfl
        · simp only [Nat.pow_zero]; omega
        · simp only [Nat.pow_one]; omega
  have htop : ¬ ((4 ^ depthOf m : Nat) : Int) < m := by
    unfold depthOf
    split
    · simp; omega
    · split
      · simp; omega
      · simp; omega
  obtain ⟨d, hdd⟩ : ∃ d, d = depthOf m := ⟨_, rfl⟩
  rw [← hdd] at hd hlow htop ⊢
  clear hdd
  go_enter Tryd.func71, Tryd.ntmps71
  go_wp2
  go_loop [3] (fun i => ∃ k : Nat, k ≤ d ∧ i = .int .i64 k) (fun i => d - (intOf i).toNat)
  case atStart => exact ⟨0, by omega, rfl⟩
  case round =>
    obtain ⟨k, hk, rfl⟩ := hrel
    have hW := fun w => impl_wide k (by omega) w
    by_cases hlt : k < d
    · have hz := hlow k hlt
      obtain ⟨z, hzz⟩ : ∃ z : Int, z = ((4 ^ k : Nat) : Int) := ⟨_, rfl⟩
      rw [← hzz] at hz hW
      clear hzz hlow htop
      go_wp2_with (go_at_call 88; refine (hW _).mono ?_; rintro r w2 ⟨rfl, rfl⟩)
      go_round
      case rel => exact ⟨k + 1, by omega, by go_num⟩
      case measure => (simp [intOf]; try omega)
    · obtain rfl : k = d := by omega
      obtain ⟨z, hzz⟩ : ∃ z : Int, z = ((4 ^ k : Nat) : Int) := ⟨_, rfl⟩
      rw [← hzz] at htop hW
      clear hzz hlow
      go_wp2_with (go_at_call 88; refine (hW _).mono ?_; rintro r w2 ⟨rfl, rfl⟩)
      go_ret
      exact ⟨rfl, rfl⟩

end Go.Proofs.YtehmaacbmkfedaaDoor
