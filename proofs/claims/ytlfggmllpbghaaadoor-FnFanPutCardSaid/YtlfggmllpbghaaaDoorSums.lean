/-
  Both ways of reckoning the checksum answer the same number at every text. No condition.
-/
import Derived.Test.YtlfggmllpbghaaaDoorText2
import Derived.WalkKit
import Derived.WalkSpells
import Derived.Lib.Hide
import Derived.ProofKit
import Derived.OpenShut
import Derived.ShutString
namespace Go.Proofs.YtlfggmllpbghaaaDoor
open Go.RowKit

def sstep (p : Int × Int) (c : UInt8) : Int × Int := ((p.1 + (c.toNat : Int) + 1) % 9973, (p.2 + (p.1 + (c.toNat : Int) + 1) % 9973) % 9973)
def sums (l : List UInt8) : Int × Int := l.foldl sstep (1, 0)
def sumA (l : List UInt8) : Int := (sums l).1
def sumB (l : List UInt8) : Int := (sums l).2
def sumT (l : List UInt8) : Int := sumA l * 9973 + sumB l

theorem sums_snoc (l : List UInt8) (c : UInt8) : sums (l ++ [c]) = sstep (sums l) c := by
  unfold sums; rw [List.foldl_append]; rfl
theorem sumA_snoc (l : List UInt8) (c : UInt8) : sumA (l ++ [c]) = (sumA l + (c.toNat : Int) + 1) % 9973 := by
  unfold sumA; rw [sums_snoc]; rfl
theorem sumB_snoc (l : List UInt8) (c : UInt8) : sumB (l ++ [c]) = (sumB l + (sumA l + (c.toNat : Int) + 1) % 9973) % 9973 := by
  unfold sumB; rw [sums_snoc]; rfl
theorem sstep_bd (l : List UInt8) (p : Int × Int) (h : 0 ≤ p.1 ∧ p.1 < 9973 ∧ 0 ≤ p.2 ∧ p.2 < 9973) :
    0 ≤ (l.foldl sstep p).1 ∧ (l.foldl sstep p).1 < 9973 ∧ 0 ≤ (l.foldl sstep p).2 ∧ (l.foldl sstep p).2 < 9973 := by
  induction l generalizing p with
  | nil => exact h
  | cons c l ih =>
    rw [List.foldl_cons]
    apply ih
    unfold sstep
    dsimp only
    omega
theorem sums_bd (l : List UInt8) : 0 ≤ sumA l ∧ sumA l < 9973 ∧ 0 ≤ sumB l ∧ sumB l < 9973 :=
  sstep_bd l (1, 0) (by decide)
theorem sumT_bd (l : List UInt8) : 0 ≤ sumT l ∧ sumT l ≤ 99460728 := by
  have := sums_bd l
  unfold sumT
  omega

theorem ret_int {k : IntKind} {a b : Int} (h : a = b) : Ending.returned (.int k a) = .returned (.int k b) := by rw [h]
theorem take_snoc (s : ByteArray) (k : Nat) (h : k < s.size) : s.data.toList.take (k + 1) = s.data.toList.take k ++ [s[k]] := by
  rw [List.take_succ_eq_append_getElem (by simpa using h)]; rfl
set_option maxHeartbeats 400000 in
theorem spec_sum (s : ByteArray) (w : World) (hs : s.size ≤ maxLen) :
    Calls Tryd.prog 68 #[.string s] w fun e w' => e = .returned (.int .i64 (sumT s.data.toList)) ∧ w = w' := by
  unfold maxLen at hs
  go_enter Tryd.func68, Tryd.ntmps68
  go_wp2
  go_loop [3, 4, 5] (fun a b i => ∃ k : Nat, k ≤ s.size ∧ i = .int .i64 k ∧ a = .int .i64 (sumA (s.data.toList.take k)) ∧ b = .int .i64 (sumB (s.data.toList.take k))) (fun _ _ i => s.size - (intOf i).toNat)
  case atStart => exact ⟨0, Nat.zero_le _, rfl, rfl, rfl⟩
  case round =>
    obtain ⟨k, hk, rfl, rfl, rfl⟩ := hrel
    obtain ⟨ha0, ha1, hb0, hb1⟩ := sums_bd (s.data.toList.take k)
    by_cases hlt : k < s.size
    · obtain ⟨hc0, hc1⟩ := u8_bd s[k]
      have hA := sumA_snoc (s.data.toList.take k) s[k]
      have hB := sumB_snoc (s.data.toList.take k) s[k]
      rw [← take_snoc s k hlt] at hA hB
      have HA := Lib.hid hA
      have HB := Lib.hid hB
      clear hA hB
      go_wp2
      all_goals
        go_round
        case rel => exact ⟨k + 1, by omega, by go_num, by rw [HA.out], by rw [HB.out]⟩
        case measure => simp [intOf]; omega
    · go_wp2
      go_ret
      exact ⟨ret_int (by rw [List.take_of_length_le (by simp; omega)]; rfl), rfl⟩

end Go.Proofs.YtlfggmllpbghaaaDoor
