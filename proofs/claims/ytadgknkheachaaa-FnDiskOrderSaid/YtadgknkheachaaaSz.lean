/-
  The weight of a disk that a law is called with.
-/
import Derived.Test.YtadgknkheachaaaDec
namespace Go.Proofs.Ytadgknkheachaaa
open Go.RowKit

def SzPost (n : Nat) (L : Int) (w : World) (e : Ending) (w' : World) : Prop := ∃ z : Int, e = .returned (.int .i64 z) ∧ Below w.heap.size w w' ∧ (0 ≤ z → (n : Int) ≤ L - z)

set_option maxHeartbeats 1000000 in
theorem sz_strs (A : Option Addr) (cap : Nat) (ss : List ByteArray) (L : Int) (w : World) (hL0 : 0 ≤ L) (hL : L ≤ 1048576) (hn : ss.length ≤ maxLen) (hs : ∀ s ∈ ss, s.size ≤ maxLen) (hA : Lies w A (strCells ss)) :
    Calls Try.prog 58 #[.slice A ss.length cap, .int .i64 L] w (SzPost ss.length L w) := by
  unfold maxLen at hn
  by_cases h0 : L < (ss.length : Int)
  · have h0' : L - (ss.length : Int) < 0 := by omega
    go_enter Try.func58, Try.ntmps58
    go_wp2
    go_ret
    exact ⟨_, rfl, Below.refl _ _, by intro h; omega⟩
  · have h0' : ¬ L - (ss.length : Int) < 0 := by omega
    go_enter Try.func58, Try.ntmps58
    go_wp2
    go_loop [1, 5] (fun z i => ∃ (k : Nat) (u : Int), k ≤ ss.length ∧ i = .int .i64 k ∧ z = .int .i64 u ∧ 0 ≤ u ∧ (ss.length : Int) ≤ L - u) (fun _ i => ss.length - (intOf i).toNat)
    case atStart => exact ⟨0, L - ss.length, Nat.zero_le _, rfl, rfl, by omega, by omega⟩
    case round =>
      obtain ⟨k, u, hk, rfl, rfl, hu, hle⟩ := hrel
      by_cases hlt : k < ss.length
      · obtain ⟨b, off, rfl, hb, hck⟩ := hA.str k hlt
        have hsk := hs ss[k] (by simp)
        unfold maxLen at hsk
        obtain ⟨x, hx⟩ : ∃ x, x = ss[k] := ⟨_, rfl⟩
        rw [← hx] at hck hsk
        clear hx
        by_cases hz : u < (x.size : Int)
        · have hz' : u - (x.size : Int) < 0 := by omega
          go_wp2
          go_ret
          exact ⟨_, rfl, Below.refl _ _, by intro h; omega⟩
        · have hz' : ¬ u - (x.size : Int) < 0 := by omega
          go_wp2
          go_round
          case rel => exact ⟨k + 1, u - x.size, by omega, by go_num, rfl, by omega, by omega⟩
          case measure => simp [intOf]; omega
      · have hke : k = ss.length := by omega
        subst hke
        go_wp2
        go_ret
        exact ⟨_, rfl, Below.refl _ _, fun _ => by omega⟩

set_option maxHeartbeats 400000 in
theorem sz_wait (n : Int) (t : ByteArray) (L : Int) (w : World) (hL0 : 0 ≤ L) (hL : L ≤ 1048576) (ht : t.size ≤ maxLen) :
    Calls Try.prog 82 #[.agg #[.int .i64 n, .string t], .int .i64 L] w fun e w' => ∃ z : Int, e = .returned (.int .i64 z) ∧ Below w.heap.size w w' ∧ (0 ≤ z → z ≤ L) ∧ -1 ≤ z := by
  unfold maxLen at ht
  by_cases hz : L < (t.size : Int)
  · have hz' : L - (t.size : Int) < 0 := by omega
    go_enter Try.func82, Try.ntmps82
    go_wp2
    go_ret
    exact ⟨_, rfl, (Below.refl _ _).alloc (Nat.le_refl _) _, by intro h; omega, by omega⟩
  · have hz' : ¬ L - (t.size : Int) < 0 := by omega
    go_enter Try.func82, Try.ntmps82
    go_wp2
    go_ret
    exact ⟨_, rfl, (Below.refl _ _).alloc (Nat.le_refl _) _, by intro h; omega, by omega⟩

set_option maxHeartbeats 1000000 in
theorem sz_waits (A : Option Addr) (cap : Nat) (ws : List Wt) (L : Int) (w : World) (hL0 : 0 ≤ L) (hL : L ≤ 1048576) (hn : ws.length ≤ maxLen) (hs : ∀ x ∈ ws, x.text.size ≤ maxLen) (hA : Lies w A (wtCells ws)) :
    Calls Try.prog 59 #[.slice A ws.length cap, .int .i64 L] w (SzPost ws.length L w) := by
  unfold maxLen at hn
  by_cases h0 : L < (ws.length : Int)
  · have h0' : L - (ws.length : Int) < 0 := by omega
    go_enter Try.func59, Try.ntmps59
    go_wp2
    go_ret
    exact ⟨_, rfl, Below.refl _ _, by intro h; omega⟩
  · have h0' : ¬ L - (ws.length : Int) < 0 := by omega
    go_enter Try.func59, Try.ntmps59
    go_wp2
    go_loopw [1, 5] (fun z i wr => ∃ (k : Nat) (u : Int), k ≤ ws.length ∧ i = .int .i64 k ∧ z = .int .i64 u ∧ 0 ≤ u ∧ (ws.length : Int) ≤ L - u ∧ Below w.heap.size w wr) (fun _ i _ => ws.length - (intOf i).toNat)
    case atStart => exact ⟨0, L - ws.length, Nat.zero_le _, rfl, rfl, by omega, by omega, Below.refl _ _⟩
    case round =>
      obtain ⟨k, u, hk, rfl, rfl, hu, hle, hb⟩ := hrel
      by_cases hlt : k < ws.length
      · obtain ⟨b, off, rfl, hlb, hc0, hc1⟩ := (hA.below hb).wt k hlt
        have hsk := hs ws[k] (by simp)
        have hW := fun w => sz_wait ws[k].num ws[k].text u w hu (by omega) hsk
        obtain ⟨x, hx⟩ : ∃ x, x = ws[k].text := ⟨_, rfl⟩
        obtain ⟨n, hn'⟩ : ∃ n, n = ws[k].num := ⟨_, rfl⟩
        rw [← hx] at hc1 hW
        rw [← hn'] at hc0 hW
        clear hx hn' hsk
        go_wp2_with (go_at_call 82; refine (hW _).mono ?_; rintro e w2 ⟨z, rfl, hb2, hz2, hz3⟩; have B2 := bel_then hb hb2; by_cases hzz : z < 0)
        · go_ret
          exact ⟨_, rfl, B2, by intro h; omega⟩
        · go_roundw
          case rel => exact ⟨k + 1, z, by omega, by go_num, rfl, by omega, by have := hz2 (by omega); omega, B2⟩
          case measure => simp [intOf]; omega
      · have hke : k = ws.length := by omega
        subst hke
        go_wp2
        go_ret
        exact ⟨_, rfl, hb, fun _ => by omega⟩
end Go.Proofs.Ytadgknkheachaaa
