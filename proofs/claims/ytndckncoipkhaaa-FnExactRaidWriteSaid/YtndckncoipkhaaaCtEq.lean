/-
  Whether two disks that a law holds against each other are equal, field by field.
-/
import Derived.Test.YtndckncoipkhaaaCtCopy
namespace Go.Proofs.Ytndckncoipkhaaa.Cut
open Go.RowKit

set_option maxHeartbeats 1000000 in
theorem eq_strs (A B : Option Addr) (ca cb : Nat) (ss : List ByteArray) (w : World) (hn : ss.length ≤ 1048576) (hA : Lies w A (strCells ss)) (hB : Lies w B (strCells ss)) :
    Calls Try.prog 106 #[.slice A ss.length ca, .slice B ss.length cb] w fun e w' => e = .returned (.bool true) ∧ Below w.heap.size w w' := by
  have hq0 : ((ss.length : Int) != (ss.length : Int)) = false := by simp
  go_enter Try.func106, Try.ntmps106
  go_wp2
  go_loopw [5] (fun i wr => ∃ k : Nat, k ≤ ss.length ∧ i = .int .i64 k ∧ Below w.heap.size w wr) (fun i _ => ss.length - (intOf i).toNat)
  case atStart => exact ⟨0, Nat.zero_le _, rfl, Below.refl _ _⟩
  case round =>
    obtain ⟨k, hk, rfl, hb⟩ := hrel
    by_cases hlt : k < ss.length
    · obtain ⟨b, off, rfl, hlb, hck⟩ := (hA.below hb).str k hlt
      obtain ⟨b2, off2, rfl, hlb2, hck2⟩ := (hB.below hb).str k hlt
      obtain ⟨x, hx⟩ : ∃ x, x = ss[k] := ⟨_, rfl⟩
      rw [← hx] at hck hck2
      have hq : (!x.toList == x.toList) = false := by simp
      have hlt' : (k : Int) < (ss.length : Int) := by omega
      clear hx
      go_wp2_with fail
      go_quiet (fail)
      go_wp2
      go_roundw
      case rel => exact ⟨k + 1, by omega, by go_num, below_drewN hb _⟩
      case measure => simp [intOf]; omega
    · have hke : k = ss.length := by omega
      subst hke
      go_wp2
      go_ret
      exact ⟨rfl, hb⟩
end Go.Proofs.Ytndckncoipkhaaa.Cut
