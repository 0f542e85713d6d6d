/-
  Sums of texts; whether a text fits a pointer, as the program asks it.
-/
import Derived.Test.YtmnamclndpfjnaaPt
import Derived.ProofKit
import Derived.ShutString
import Derived.BigQuiet
import Derived.WalkSmall
import Derived.Deep.QuietTactic
import Derived.Deep.RegionHeld3
namespace Go.Proofs.Ytmnamclndpfjnaa
open Go.RowKit

def sstep (p : Int × Int) (c : UInt8) : Int × Int := ((p.1 + (c.toNat : Int) + 1) % 9973, (p.2 + (p.1 + (c.toNat : Int) + 1) % 9973) % 9973)
def sums (l : List UInt8) : Int × Int := l.foldl sstep (1, 0)
def sumA (l : List UInt8) : Int := (sums l).1
def sumB (l : List UInt8) : Int := (sums l).2
def sumT (l : List UInt8) : Int := sumA l * 9973 + sumB l

theorem sums_snoc (l : List UInt8) (c : UInt8) : sums (l ++ [c]) = sstep (sums l) c := by
  unfold sums; rw [List.foldl_append]; rfl
theorem sumA_snoc (l : List UInt8) (c : UInt8) : sumA (l ++ [c]) = (sumA l + (c.toNat : Int) + 1) % 9973 := by
  unfold sumA; rw [sums_snoc]; rfl
theorem sumB_snoc (l : List UInt8) (c : UInt8) : sumB (l ++ [c]) = (sumB l + (sumA l + (c.toNat : Int) + 1) % 9973) % 9973 := by
  unfold sumB; rw [sums_snoc]; rfl
theorem sstep_bd (l : List UInt8) (p : Int × Int) (h : 0 ≤ p.1 ∧ p.1 < 9973 ∧ 0 ≤ p.2 ∧ p.2 < 9973) :
    0 ≤ (l.foldl sstep p).1 ∧ (l.foldl sstep p).1 < 9973 ∧ 0 ≤ (l.foldl sstep p).2 ∧ (l.foldl sstep p).2 < 9973 := by
  induction l generalizing p with
  | nil => exact h
  | cons c l ih =>
    rw [List.foldl_cons]
    apply ih
    unfold sstep
    dsimp only
    omega
theorem sums_bd (l : List UInt8) : 0 ≤ sumA l ∧ sumA l < 9973 ∧ 0 ≤ sumB l ∧ sumB l < 9973 :=
  sstep_bd l (1, 0) (by decide)
theorem sumT_bd (l : List UInt8) : 0 ≤ sumT l ∧ sumT l ≤ 99460728 := by
  have := sums_bd l
  unfold sumT
  omega

theorem ret_int {k : IntKind} {a b : Int} (h : a = b) : Ending.returned (.int k a) = .returned (.int k b) := by rw [h]
theorem take_snoc (s : ByteArray) (k : Nat) (h : k < s.size) : s.data.toList.take (k + 1) = s.data.toList.take k ++ [s[k]] := by
  rw [List.take_succ_eq_append_getElem (by simpa using h)]; rfl
theorem u8_bd (c : UInt8) : 0 ≤ (c.toNat : Int) ∧ (c.toNat : Int) ≤ 255 := by
  have := c.toNat_lt
  omega

set_option maxHeartbeats 400000 in
theorem spec_sum (s : ByteArray) (w : World) (hs : s.size ≤ maxLen) :
    Calls Try.prog 109 #[.string s] w fun e w' => e = .returned (.int .i64 (sumT s.data.toList)) ∧ w = w' := by
  unfold maxLen at hs
  go_enter Try.func109, Try.ntmps109
  go_wp2
  go_loop [3, 4, 5] (fun a b i => ∃ k : Nat, k ≤ s.size ∧ i = .int .i64 k ∧ a = .int .i64 (sumA (s.data.toList.take k)) ∧ b = .int .i64 (sumB (s.data.toList.take k))) (fun _ _ i => s.size - (intOf i).toNat)
  case atStart => exact ⟨0, Nat.zero_le _, rfl, rfl, rfl⟩
  case round =>
    obtain ⟨k, hk, rfl, rfl, rfl⟩ := hrel
    obtain ⟨ha0, ha1, hb0, hb1⟩ := sums_bd (s.data.toList.take k)
    by_cases hlt : k < s.size
    · obtain ⟨hc0, hc1⟩ := u8_bd s[k]
      have hA := sumA_snoc (s.data.toList.take k) s[k]
      have hB := sumB_snoc (s.data.toList.take k) s[k]
      rw [← take_snoc s k hlt] at hA hB
      have HA := Lib.hid hA
      have HB := Lib.hid hB
      clear hA hB
      go_wp2
      all_goals
        go_round
        case rel => exact ⟨k + 1, by omega, by go_num, by rw [HA.out], by rw [HB.out]⟩
        case measure => simp [intOf]; omega
    · go_wp2
      go_ret
      exact ⟨ret_int (by rw [List.take_of_length_le (by simp; omega)]; rfl), rfl⟩

set_option maxHeartbeats 400000 in
theorem impl_sum (s : ByteArray) (w : World) (hs : s.size ≤ maxLen) :
    Calls Try.prog 110 #[.string s] w fun e w' => e = .returned (.int .i64 (sumT s.data.toList)) ∧ w = w' := by
  unfold maxLen at hs
  go_enter Try.func110, Try.ntmps110
  go_wp2
  go_loop [3, 4, 8] (fun a b i => ∃ k : Nat, k ≤ s.size ∧ i = .int .i64 k ∧ a = .int .i64 (sumA (s.data.toList.take k)) ∧ b = .int .i64 (sumB (s.data.toList.take k))) (fun _ _ i => s.size - (intOf i).toNat)
  case atStart => exact ⟨0, Nat.zero_le _, rfl, rfl, rfl⟩
  case round =>
    obtain ⟨k, hk, rfl, rfl, rfl⟩ := hrel
    obtain ⟨ha0, ha1, hb0, hb1⟩ := sums_bd (s.data.toList.take k)
    by_cases hlt : k < s.size
    · obtain ⟨hc0, hc1⟩ := u8_bd s[k]
      have hA := sumA_snoc (s.data.toList.take k) s[k]
      have hB := sumB_snoc (s.data.toList.take k) s[k]
      rw [← take_snoc s k hlt] at hA hB
      have HA := Lib.hid hA
      have HB := Lib.hid hB
      clear hA hB
      go_wp2
      all_goals
        go_round
        case rel => exact ⟨k + 1, by omega, by go_num, by rw [HA.out], by rw [HB.out, Int.add_comm]⟩
        case measure => simp [intOf]; omega
    · go_wp2
      go_ret
      exact ⟨ret_int (by rw [List.take_of_length_le (by simp; omega)]; rfl), rfl⟩

end Go.Proofs.Ytmnamclndpfjnaa

namespace Go.Proofs.Ytmnamclndpfjnaa
open Go.RowKit

def HP (w : World) (a b c d e : Int) (W : World) : Prop :=
  W.cell? ⟨w.heap.size, 0, none⟩ = some (.int .i64 a) ∧ W.cell? ⟨w.heap.size, 1, none⟩ = some (.int .i64 b) ∧ W.cell? ⟨w.heap.size, 2, none⟩ = some (.int .i64 c) ∧ W.cell? ⟨w.heap.size, 3, none⟩ = some (.int .i64 d) ∧ W.cell? ⟨w.heap.size, 4, none⟩ = some (.int .i64 e) ∧ w.heap.size < W.heap.size ∧ Below w.heap.size w W
theorem HP.next {w W W' : World} {a b c d e : Int} (h : HP w a b c d e W) (hb : Below W.heap.size W W') : HP w a b c d e W' := by
  obtain ⟨h0, h1, h2, h3, h4, hl, hw⟩ := h
  exact ⟨(hb.cell hl).trans h0, (hb.cell hl).trans h1, (hb.cell hl).trans h2, (hb.cell hl).trans h3, (hb.cell hl).trans h4, Nat.lt_of_lt_of_le hl hb.size, hw.trans (hb.mono hw.size)⟩
theorem HP.drew {w W : World} {a b c d e : Int} (h : HP w a b c d e W) : HP w a b c d e W.drew := ⟨h.1, h.2.1, h.2.2.1, h.2.2.2.1, h.2.2.2.2.1, h.2.2.2.2.2.1, h.2.2.2.2.2.2.drew⟩

theorem HP.new (w : World) (a b c d e : Int) (t : TypeId) : HP w a b c d e (w.alloc (.cells #[.int .i64 a, .int .i64 b, .int .i64 c, .int .i64 d, .int .i64 e] t)) :=
  ⟨by rw [World.cell?_alloc_mark]; rfl, by rw [World.cell?_alloc_mark]; rfl, by rw [World.cell?_alloc_mark]; rfl, by rw [World.cell?_alloc_mark]; rfl, by rw [World.cell?_alloc_mark]; rfl, by simp, bel_new (Below.refl _ _) _⟩

def fitsB (a b c d e : Int) (s : ByteArray) : Bool := isOk a b c d e && !isHole a b c d e && (c == (s.size : Int)) && (d == sumT s.data.toList)

set_option maxHeartbeats 1000000 in
theorem m_fits (a b c d e : Int) (s : ByteArray) (w : World) (hs : s.size ≤ maxLen) : Calls Try.prog 92 #[.agg #[.int .i64 a, .int .i64 b, .int .i64 c, .int .i64 d, .int .i64 e], .string s] w fun r w' => r = .returned (.bool ((c == (s.size : Int)) && (d == sumT s.data.toList))) ∧ Below w.heap.size w w' := by
  have hS : ∀ w, Calls Try.prog 110 #[.string s] w fun r w' => r = .returned (.int .i64 (sumT s.data.toList)) ∧ w' = w := fun w => (impl_sum s w hs).mono fun r w' ⟨h1, h2⟩ => ⟨h1, h2.symm⟩
  obtain ⟨z, hz⟩ : ∃ z, z = sumT s.data.toList := ⟨_, rfl⟩
  rw [← hz] at hS ⊢
  clear hz
  by_cases hc : c = (s.size : Int)
  · have hq : (c == (s.size : Int)) = true := by simp [hc]
    have hqd : decide (c = (s.size : Int)) = true := by simp [hc]
    by_cases hd : d = z
    · have hq2 : (d == z) = true := by simp [hd]
      have hq2d : decide (d = z) = true := by simp [hd]
      rw [hq, hq2]
      clear hc hd
      go_enter Try.func92, Try.ntmps92
      go_wp2_with fail
      go_quiet ((go_at_call 110; exact Calls.quiet_of_same (hS _)))
      go_wp2_with fail
      go_ret
      exact ⟨rfl, below_drewN (bel_new (Below.refl _ _) _) _⟩
    · have hq2 : (d == z) = false := by simp [hd]
      have hq2d : decide (d = z) = false := by simp [hd]
      rw [hq, hq2]
      clear hc hd
      go_enter Try.func92, Try.ntmps92
      go_wp2_with fail
      go_quiet ((go_at_call 110; exact Calls.quiet_of_same (hS _)))
      go_wp2_with fail
      go_ret
      exact ⟨rfl, below_drewN (bel_new (Below.refl _ _) _) _⟩
  · have hq : (c == (s.size : Int)) = false := by simp [hc]
    have hqd : decide (c = (s.size : Int)) = false := by simp [hc]
    rw [hq]
    clear hc
    go_enter Try.func92, Try.ntmps92
    go_wp2_with fail
    go_quiet ((go_at_call 110; exact Calls.quiet_of_same (hS _)))
    go_wp2_with fail
    go_ret
    exact ⟨rfl, below_drewN (bel_new (Below.refl _ _) _) _⟩
end Go.Proofs.Ytmnamclndpfjnaa
