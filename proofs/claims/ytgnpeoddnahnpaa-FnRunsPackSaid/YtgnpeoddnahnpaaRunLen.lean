/-
  runLength answers how many equal bytes, nine at most, stand at the head of a text that is not empty.
-/
import Derived.Test.YtgnpeoddnahnpaaRuns
import Derived.Test.YtgnpeoddnahnpaaSums
import Derived.WalkKit
import Derived.WalkSpells
import Derived.Lib.Hide
import Derived.BigQuiet
import Derived.Deep.QuietTactic
import Derived.WalkSmall
namespace Go.Proofs.Ytgnpeoddnahnpaa
open Go.RowKit

theorem rl_at (s : ByteArray) (h0 : 0 < s.size) : rl s.data.toList = 1 + rlc s[0] (9 - 1) (s.data.toList.drop 1) := by
  have h := drop_at s 0 h0
  rw [List.drop_zero] at h
  conv => lhs; rw [h]
  exact Nat.add_comm _ _

set_option maxHeartbeats 400000 in
theorem run_len (s : ByteArray) (w : World) (hs : s.size ≤ maxLen) (h0 : 0 < s.size) :
    Calls Try.prog 26 #[.string s] w fun e w' => e = .returned (.int .i64 (rl s.data.toList)) ∧ ∃ q, w' = w.drewN q := by
  unfold maxLen at hs
  go_enter Try.func26, Try.ntmps26
  go_wp2
  go_loopw [3] (fun i wr => ∃ n : Nat, 1 ≤ n ∧ n ≤ 9 ∧ n ≤ s.size ∧ i = .int .i64 n ∧ rl s.data.toList = n + rlc s[0] (9 - n) (s.data.toList.drop n) ∧ ∃ q, wr = w.drewN q) (fun i _ => 9 - (intOf i).toNat)
  case atStart =>
    refine ⟨1, by omega, by omega, by omega, rfl, ?_, 0, rfl⟩
    exact rl_at s h0
  case round =>
    obtain ⟨n, hn1, hn9, hns, rfl, hrl, q, rfl⟩ := hrel
    have hr := rlc_le s[0] (9 - n) (s.data.toList.drop n)
    by_cases h1 : n < s.size
    · have hdr := drop_at s n h1
      by_cases h2 : n < 9
      · obtain ⟨m, hm⟩ : ∃ m, 9 - n = m + 1 := ⟨8 - n, by omega⟩
        have hm' : 9 - (n + 1) = m := by omega
        have hd : decide ((n : Int) < 9) = true := by simp; omega
        by_cases h3 : s[n] = s[0]
        · have hq : ((s[n].toNat : Int) == (s[0].toNat : Int)) = true := by rw [h3]; simp
          rw [hdr, hm, h3, rlc_hit] at hrl
          have HR := Lib.hid hrl
          have HM := Lib.hid hm'
          clear hrl hdr hm hm' hr h3
          go_wp2_with fail
          go_quiet (fail)
          go_wp2
          go_roundw
          case rel => exact ⟨n + 1, by omega, by omega, by omega, by go_num, by rw [HR.out, HM.out]; omega, _, rfl⟩
          case measure => simp [intOf]; omega
        · have hq : ((s[n].toNat : Int) == (s[0].toNat : Int)) = false := by
            simp only [beq_eq_false_iff_ne, ne_eq]
            intro h
            exact h3 (UInt8.toNat_inj.1 (by omega))
          rw [hdr, hm, rlc_miss _ _ _ _ h3] at hrl
          have HR := Lib.hid hrl
          clear hrl hdr hm hm' hr h3
          go_wp2_with fail
          go_quiet (fail)
          go_wp2
          go_ret
          exact ⟨ret_int (by rw [HR.out]; rfl), _, World.drewN_drewN _ _ _⟩
      · have hd : decide ((n : Int) < 9) = false := by simp; omega
        have hrl' : rl s.data.toList = n := by omega
        have HR := Lib.hid hrl'
        clear hrl hdr hrl' hr
        go_wp2_with fail
        go_quiet (fail)
        go_wp2
        go_ret
        exact ⟨ret_int (by rw [HR.out]), _, World.drewN_drewN _ _ _⟩
    · have hz : (s.data.toList.drop n).length = 0 := by simp; omega
      have hrl' : rl s.data.toList = n := by omega
      have HR := Lib.hid hrl'
      clear hrl hrl' hr hz
      go_wp2_with fail
      go_quiet (fail)
      go_wp2
      go_ret
      exact ⟨ret_int (by rw [HR.out]), _, World.drewN_drewN _ _ _⟩
end Go.Proofs.Ytgnpeoddnahnpaa
