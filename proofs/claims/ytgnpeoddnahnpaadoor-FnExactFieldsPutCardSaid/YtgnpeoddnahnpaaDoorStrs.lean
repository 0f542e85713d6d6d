/-
  Slices of strings: what a slice value holds, its weight, its copy, and whether two hold the same.
-/
import Derived.Test.YtgnpeoddnahnpaaDoorNum
import Derived.BigQuiet
import Derived.Deep.QuietTactic
import Derived.Laws.OwnMore
import Derived.OwnWalk
namespace Go.Proofs.YtgnpeoddnahnpaaDoor
open Go.RowKit

/-- The slice address A leads to the strings ss. -/
def StrsAt (w : World) (A : Option Addr) (ss : List ByteArray) : Prop :=
  0 < ss.length → ∃ b off, A = some ⟨b, off, none⟩ ∧ b < w.heap.size ∧ ∀ (j : Nat) (h : j < ss.length), w.cell? ⟨b, off + j, none⟩ = some (.string (ss[j]))
theorem StrsAt.below {w w' : World} {A : Option Addr} {ss : List ByteArray} (h : StrsAt w A ss) (hb : Below w.heap.size w w') : StrsAt w' A ss := by
  intro h0
  obtain ⟨b, off, rfl, hlt, hc⟩ := h h0
  exact ⟨b, off, rfl, Nat.lt_of_lt_of_le hlt hb.size, fun j hj => (hb.cell (p := ⟨b, off + j, none⟩) hlt).trans (hc j hj)⟩

def tot (ss : List ByteArray) : Nat := (ss.map fun s => s.size).sum
theorem tot_take (ss : List ByteArray) (k : Nat) (h : k < ss.length) : tot (ss.take (k + 1)) = tot (ss.take k) + ss[k].size := by
  unfold tot
  rw [List.take_succ_eq_append_getElem h, List.map_append, List.sum_append]
  simp
theorem tot_le (ss : List ByteArray) (s : ByteArray) (h : s ∈ ss) : s.size ≤ tot ss := by
  unfold tot
  induction ss with
  | nil => cases h
  | cons a l ih =>
    simp only [List.mem_cons] at h
    rw [List.map_cons, List.sum_cons]
    rcases h with rfl | h
    · omega
    · have := ih h
      omega

def SzPost (B : Nat) (L : Int) (w : World) (e : Ending) (w' : World) : Prop := ∃ z : Int, e = .returned (.int .i64 z) ∧ w = w' ∧ (0 ≤ z → (B : Int) ≤ L)

set_option maxHeartbeats 1000000 in
theorem sz_any (A : Option Addr) (cap : Nat) (ss : List ByteArray) (L : Int) (w : World) (hL0 : 0 ≤ L) (hL : L ≤ 1048576) (hn : ss.length ≤ maxLen) (hs : ∀ s ∈ ss, s.size ≤ maxLen) (hA : StrsAt w A ss) :
    Calls Tryd.prog 13 #[.slice A ss.length cap, .int .i64 L] w (SzPost (ss.length + tot ss) L w) := by
  unfold maxLen at hn
  by_cases h0 : L < (ss.length : Int)
  · have h0' : L - (ss.length : Int) < 0 := by omega
    go_enter Tryd.func13, Tryd.ntmps13
    go_wp2
    go_ret
    exact ⟨_, rfl, rfl, by intro h; omega⟩
  · have h0' : ¬ L - (ss.length : Int) < 0 := by omega
    obtain ⟨n, hn2⟩ : ∃ n, n = ss.length := ⟨_, rfl⟩
    go_enter Tryd.func13, Tryd.ntmps13
    go_wp2
    go_loop [1, 5] (fun z i => ∃ k : Nat, k ≤ ss.length ∧ i = .int .i64 k ∧ z = .int .i64 (L - ss.length - tot (ss.take k)) ∧ (ss.length : Int) + tot (ss.take k) ≤ L) (fun _ i => ss.length - (intOf i).toNat)
    case atStart => exact ⟨0, Nat.zero_le _, rfl, by simp [tot], by simp [tot]; omega⟩
    case round =>
      obtain ⟨k, hk, rfl, rfl, hle⟩ := hrel
      by_cases hlt : k < ss.length
      · obtain ⟨b, off, rfl, hb, hc⟩ := hA (by omega)
        have hck := hc k hlt
        have htk := tot_take ss k hlt
        have hsk := hs ss[k] (by simp)
        unfold maxLen at hsk
        obtain ⟨x, hx⟩ : ∃ x, x = ss[k] := ⟨_, rfl⟩
        rw [← hx] at hck htk hsk
        obtain ⟨t, ht⟩ : ∃ t, t = tot (ss.take k) := ⟨_, rfl⟩
        rw [← ht] at hle htk ⊢
        by_cases hz : L - (ss.length : Int) - (t : Int) < (x.size : Int)
        · have hz' : L - (ss.length : Int) - (t : Int) - (x.size : Int) < 0 := by omega
          clear hc htk ht hx
          go_wp2
          go_ret
          exact ⟨_, rfl, rfl, by intro h; omega⟩
        · have hz' : ¬ L - (ss.length : Int) - (t : Int) - (x.size : Int) < 0 := by omega
          have HT := Lib.hid htk
          clear hc htk ht hx
          go_wp2
          go_round
          case rel => exact ⟨k + 1, by omega, by go_num, by rw [HT.out]; congr 1; omega, by rw [HT.out]; omega⟩
          case measure => simp [intOf]; omega
      · have hke : k = ss.length := by omega
        subst hke
        rw [List.take_length] at hle ⊢
        go_wp2
        go_ret
        exact ⟨_, rfl, rfl, fun _ => by omega⟩

end Go.Proofs.YtgnpeoddnahnpaaDoor
