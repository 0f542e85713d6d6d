/-
  The weight of a disk that a law is called with.
-/
import Derived.Test.YtndckncoipkhaaaCtDec
namespace Go.Proofs.Ytndckncoipkhaaa.Cut
open Go.RowKit

def SzPost (n : Nat) (L : Int) (w : World) (e : Ending) (w' : World) : Prop := ∃ z : Int, e = .returned (.int .i64 z) ∧ Below w.heap.size w w' ∧ (0 ≤ z → (n : Int) ≤ L - z)

set_option maxHeartbeats 1000000 in
theorem sz_strs (A : Option Addr) (cap : Nat) (ss : List ByteArray) (L : Int) (w : World) (hL0 : 0 ≤ L) (hL : L ≤ 1048576) (hn : ss.length ≤ maxLen) (hs : ∀ s ∈ ss, s.size ≤ maxLen) (hA : Lies w A (strCells ss)) :
    Calls Try.prog 109 #[.slice A ss.length cap, .int .i64 L] w (SzPost ss.length L w) := by
  unfold maxLen at hn
  by_cases h0 : L < (ss.length : Int)
  · have h0' : L - (ss.length : Int) < 0 := by omega
    go_enter Try.func109, Try.ntmps109
    go_wp2
    go_ret
    exact ⟨_, rfl, Below.refl _ _, by intro h; omega⟩
  · have h0' : ¬ L - (ss.length : Int) < 0 := by omega
    go_enter Try.func109, Try.ntmps109
    go_wp2
    go_loop [1, 5] (fun z i => ∃ (k : Nat) (u : Int), k ≤ ss.length ∧ i = .int .i64 k ∧ z = .int .i64 u ∧ 0 ≤ u ∧ (ss.length : Int) ≤ L - u) (fun _ i => ss.length - (intOf i).toNat)
    case atStart => exact ⟨0, L - ss.length, Nat.zero_le _, rfl, rfl, by omega, by omega⟩
    case round =>
      obtain ⟨k, u, hk, rfl, rfl, hu, hle⟩ := hrel
      by_cases hlt : k < ss.length
      · obtain ⟨b, off, rfl, hb, hck⟩ := hA.str k hlt
        have hsk := hs ss[k] (by simp)
        unfold maxLen at hsk
        obtain ⟨x, hx⟩ : ∃ x, x = ss[k] := ⟨_, rfl⟩
        rw [← hx] at hck hsk
        clear hx
        by_cases hz : u < (x.size : Int)
        · have hz' : u - (x.size : Int) < 0 := by omega
          go_wp2
          go_ret
          exact ⟨_, rfl, Below.refl _ _, by intro h; omega⟩
        · have hz' : ¬ u - (x.size : Int) < 0 := by omega
          go_wp2
          go_round
          case rel => exact ⟨k + 1, u - x.size, by omega, by go_num, rfl, by omega, by omega⟩
          case measure => simp [intOf]; omega
      · have hke : k = ss.length := by omega
        subst hke
        go_wp2
        go_ret
        exact ⟨_, rfl, Below.refl _ _, fun _ => by omega⟩
end Go.Proofs.Ytndckncoipkhaaa.Cut
