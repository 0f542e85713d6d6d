/-
  l6Many: how long its text is.
-/
import Derived.Test.YtndckncoipkhaaaKJ
namespace Go.Proofs.Ytndckncoipkhaaa.Cut
open Go.RowKit

theorem twice_odd (m q o T : Nat) (h : m * (2 * q + 1) + o = T) : (m + m) * q + (o + m) = T := by
  rw [Nat.mul_add, Nat.mul_one, ← Nat.mul_assoc, Nat.mul_two] at h
  omega
theorem twice_even (m q o T : Nat) (h : m * (2 * q) + o = T) : (m + m) * q + o = T := by
  rw [← Nat.mul_assoc, Nat.mul_two] at h
  omega
theorem le_mul_T (m k o T : Nat) (hk : 1 ≤ k) (h : m * k + o = T) (hT : T ≤ 1000) : m ≤ 1000 ∧ o ≤ 1000 := by
  have := Nat.le_mul_of_pos_right m hk
  omega

set_option maxHeartbeats 1000000 in
theorem many_len (l : List UInt8) (n T : Nat) (w : World) (hn : l.length * n = T) (hT : T ≤ 1000) (hn2 : n ≤ 1000) :
    Calls Try.prog 120 #[.string (strOf l), .int .i64 n] w fun r w' => (∃ t : ByteArray, r = .returned (.string t) ∧ t.size = T) ∧ w' = w := by
  go_enter Try.func120, Try.ntmps120
  go_wp2
  go_loop [0, 1, 5] (fun s i out => ∃ (l o : List UInt8) (k : Nat), s = .string (strOf l) ∧ i = .int .i64 k ∧ out = .string (strOf o) ∧ k ≤ 1000 ∧ l.length * k + o.length = T) (fun _ i _ => (intOf i).toNat)
  case atStart => exact ⟨l, [], n, rfl, rfl, rfl, hn2, by simpa using hn⟩
  case round =>
    obtain ⟨l, o, k, rfl, rfl, rfl, hk, hb⟩ := hrel
    clear hn hn2
    by_cases h0 : k = 0
    · subst h0
      have hsz := strOf_size o
      have HB := Lib.hid hb
      clear hb
      go_wp2
      go_ret
      exact ⟨⟨strOf o, rfl, by rw [strOf_size]; have := HB.out; omega⟩, rfl⟩
    · have hbd := le_mul_T _ _ _ _ (by omega) hb hT
      have a1 := add_strs Try.prog o l (by omega)
      have a2 := add_strs Try.prog l l (by omega)
      have hpos : (0 : Int) < (k : Int) := by omega
      obtain ⟨q, hq⟩ : ∃ q, q = k / 2 := ⟨_, rfl⟩
      have hdv : (k : Int) / 2 = (q : Int) := by omega
      have htd : ((k : Int).tdiv 2) = (q : Int) := by rw [Int.tdiv_eq_ediv_of_nonneg (by omega)]; exact hdv
      have hqw := IntWalk.i64_in (q : Int) (by omega)
      by_cases hm : k % 2 = 1
      · have htm : ((k : Int).tmod 2) = 1 := by rw [Int.tmod_eq_emod_of_nonneg (by omega)]; omega
        have hmd : ((k : Int) % 2) = 1 := by omega
        have hnx := twice_odd l.length q o.length T (by rw [show 2 * q + 1 = k by omega]; exact hb)
        have hlt : q < k := by omega
        have hqk : q ≤ 1000 := by omega
        have HQ := Lib.hid (show q ≤ 1000 ∧ q < k ∧ (l.length + l.length) * q + (o.length + l.length) = T from ⟨hqk, hlt, hnx⟩)
        clear hq hb hnx hm
        go_wp2
        all_goals
          go_round
          case rel => exact ⟨l ++ l, o ++ l, q, rfl, by go_num, rfl, HQ.out.1, by simpa using HQ.out.2.2⟩
          case measure => have := HQ.out.2.1; simp [intOf, *]
      · have htm : ((k : Int).tmod 2) = 0 := by rw [Int.tmod_eq_emod_of_nonneg (by omega)]; omega
        have hmd : ((k : Int) % 2) = 0 := by omega
        have hnx := twice_even l.length q o.length T (by rw [show 2 * q = k by omega]; exact hb)
        have hlt : q < k := by omega
        have hqk : q ≤ 1000 := by omega
        have HQ := Lib.hid (show q ≤ 1000 ∧ q < k ∧ (l.length + l.length) * q + o.length = T from ⟨hqk, hlt, hnx⟩)
        clear hq hb hnx hm
        go_wp2
        all_goals
          go_round
          case rel => exact ⟨l ++ l, o, q, rfl, by go_num, rfl, HQ.out.1, by simpa using HQ.out.2.2⟩
          case measure => have := HQ.out.2.1; simp [intOf, *]
theorem many_x (w : World) : Calls Try.prog 120 #[.string ⟨#[120]⟩, .int .i64 200] w fun r w' => (∃ t : ByteArray, r = .returned (.string t) ∧ t.size = 200) ∧ w' = w :=
  many_len [120] 200 200 w rfl (by decide) (by decide)
end Go.Proofs.Ytndckncoipkhaaa.Cut
