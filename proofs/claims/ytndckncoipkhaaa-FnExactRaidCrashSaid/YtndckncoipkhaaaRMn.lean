/-
  The least of a row of numbers.
-/
import Derived.Test.YtndckncoipkhaaaRCs
import Derived.Lib.MinMax
namespace Go.Proofs.Ytndckncoipkhaaa
open Go.RowKit

/-- The first k numbers are not under z; z is one of them. -/
def leastTo (ms : List Int) (k : Nat) (z : Int) : Prop := (∀ j (h : j < ms.length), j < k → z ≤ ms[j]) ∧ ∃ j, ∃ h : j < ms.length, z = ms[j]
theorem least_next {ms : List Int} {k : Nat} {z : Int} (h : leastTo ms k z) (hk : k < ms.length) : leastTo ms (k + 1) (min z ms[k]) := by
  obtain ⟨h1, h2⟩ := h
  refine ⟨fun j hj hjk => ?_, ?_⟩
  · by_cases e : j = k
    · subst e
      omega
    · have := h1 j hj (by omega)
      omega
  · by_cases hz : z ≤ ms[k]
    · rw [Int.min_eq_left hz]
      exact h2
    · rw [Int.min_eq_right (by omega)]
      exact ⟨k, hk, rfl⟩
set_option maxRecDepth 100000 in
set_option maxHeartbeats 2000000 in
theorem slices_min (M : Option Addr) (mc : Nat) (ms : List Int) (w : World) (h0 : 0 < ms.length) (hml : ms.length ≤ 1048576) (hM : Lies w M (intCells ms)) :
    Calls Try.prog 69 #[.slice M ms.length mc] w fun r w' => ∃ z : Int, r = .returned (.int .i64 z) ∧ leastTo ms ms.length z ∧ Below w.heap.size w w' := by
  have h0n : ¬ ((ms.length : Int) < 1) := by omega
  have h0i : (0 : Int) < (ms.length : Int) := by omega
  have hM0 := hM
  obtain ⟨bm, om, rfl, hbm, zm⟩ := hM.int 0 h0
  have hz : leastTo ms 1 ms[0] := ⟨fun j h hj => by
    have e : j = 0 := by omega
    subst e; exact Int.le_refl _, 0, h0, rfl⟩
  obtain ⟨z, hzz⟩ : ∃ z, z = ms[0] := ⟨_, rfl⟩
  rw [← hzz] at zm hz
  rw [Nat.add_zero] at zm
  clear hzz hM
  go_enter Try.func69, Try.ntmps69
  go_wp2_with fail
  go_loopw [3, 4] (fun m i wr => ∃ (k : Nat) (y : Int), 1 ≤ k ∧ k ≤ ms.length ∧ i = .int .i64 k ∧ m = .int .i64 y ∧ leastTo ms k y ∧ Below w.heap.size w wr) (fun _ i _ => ms.length - (intOf i).toNat)
  case atStart => exact ⟨1, z, Nat.le_refl _, h0, rfl, rfl, hz, Below.refl _ _⟩
  case round =>
    clear hz
    obtain ⟨k, y, hk1, hk, rfl, rfl, hy, BB⟩ := hrel
    by_cases hlt : k < ms.length
    · obtain ⟨b', o', e', hb', zk⟩ := (hM0.below BB).int k hlt
      cases e'
      have hN := Lib.hid (least_next hy hlt)
      obtain ⟨x, hx⟩ : ∃ x, x = ms[k] := ⟨_, rfl⟩
      rw [← hx] at zk hN
      have hlti : (k : Int) < (ms.length : Int) := by omega
      clear hx hy zm
      go_wp2_with fail
      go_roundw
      case rel => exact ⟨k + 1, _, by omega, by omega, by go_num, rfl, hN.out, BB⟩
      case measure => simp [intOf]; omega
    · have hke : k = ms.length := by omega
      subst hke
      have hY := Lib.hid hy
      clear hy
      go_wp2_with fail
      go_ret
      exact ⟨_, rfl, hY.out, BB⟩
end Go.Proofs.Ytndckncoipkhaaa
