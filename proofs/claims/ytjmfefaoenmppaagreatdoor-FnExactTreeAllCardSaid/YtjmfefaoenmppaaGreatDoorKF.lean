/-
  Sums of texts; whether a text fits a pointer, as the program asks it.
  PtrFits, the model's, where the pointer is not valid.
  PtrFits, the model's, at a hole.
  PtrFits, the model's, at another size.
  PtrFits, the model's, at the size.
  PtrFits: both ways agree, and the law's walk over them.
  What is read from a store.
-/
import Derived.Test.YtjmfefaoenmppaaGreatDoorKB
import Derived.ProofKit
import Derived.ShutString
import Derived.BigQuiet
import Derived.WalkSmall
import Derived.Deep.QuietTactic
import Derived.Deep.RegionHeld3
import Derived.Deep.RegionLaw
import Derived.Test.YtjmfefaoenmppaaGreatDoorKE
set_option linter.unusedVariables false

namespace Go.Proofs.YtjmfefaoenmppaaGreatDoor
open Go.RowKit

def sstep (p : Int × Int) (c : UInt8) : Int × Int := ((p.1 + (c.toNat : Int) + 1) % 9973, (p.2 + (p.1 + (c.toNat : Int) + 1) % 9973) % 9973)
def sums (l : List UInt8) : Int × Int := l.foldl sstep (1, 0)
def sumA (l : List UInt8) : Int := (sums l).1
def sumB (l : List UInt8) : Int := (sums l).2
def sumT (l : List UInt8) : Int := sumA l * 9973 + sumB l

theorem sums_snoc (l : List UInt8) (c : UInt8) : sums (l ++ [c]) = sstep (sums l) c := by
  unfold sums; rw [List.foldl_append]; rfl
theorem sumA_snoc (l : List UInt8) (c : UInt8) : sumA (l ++ [c]) = (sumA l + (c.toNat : Int) + 1) % 9973 := by
  unfold sumA; rw [sums_snoc]; rfl
theorem sumB_snoc (l : List UInt8) (c : UInt8) : sumB (l ++ [c]) = (sumB l + (sumA l + (c.toNat : Int) + 1) % 9973) % 9973 := by
  unfold sumB; rw [sums_snoc]; rfl
theorem sstep_bd (l : List UInt8) (p : Int × Int) (h : 0 ≤ p.1 ∧ p.1 < 9973 ∧ 0 ≤ p.2 ∧ p.2 < 9973) :
    0 ≤ (l.foldl sstep p).1 ∧ (l.foldl sstep p).1 < 9973 ∧ 0 ≤ (l.foldl sstep p).2 ∧ (l.foldl sstep p).2 < 9973 := by
  induction l generalizing p with
  | nil => exact h
  | cons c l ih =>
    rw [List.foldl_cons]
    apply ih
    unfold sstep
    dsimp only
    omega
theorem sums_bd (l : List UInt8) : 0 ≤ sumA l ∧ sumA l < 9973 ∧ 0 ≤ sumB l ∧ sumB l < 9973 :=
  sstep_bd l (1, 0) (by decide)
theorem sumT_bd (l : List UInt8) : 0 ≤ sumT l ∧ sumT l ≤ 99460728 := by
  have := sums_bd l
  unfold sumT
  omega

theorem ret_int {k : IntKind} {a b : Int} (h : a = b) : Ending.returned (.int k a) = .returned (.int k b) := by rw [h]
theorem take_snoc (s : ByteArray) (k : Nat) (h : k < s.size) : s.data.toList.take (k + 1) = s.data.toList.take k ++ [s[k]] := by
  rw [List.take_succ_eq_append_getElem (by simpa using h)]; rfl
theorem u8_bd (c : UInt8) : 0 ≤ (c.toNat : Int) ∧ (c.toNat : Int) ≤ 255 := by
  have := c.toNat_lt
  omega

set_option maxHeartbeats 400000 in
theorem spec_sum (s : ByteArray) (w : World) (hs : s.size ≤ maxLen) :
    Calls Tryz.prog 116 #[.string s] w fun e w' => e = .returned (.int .i64 (sumT s.data.toList)) ∧ w = w' := by
  unfold maxLen at hs
  go_enter Tryz.func116, Tryz.ntmps116
  go_wp2
  go_loop [3, 4, 5] (fun a b i => ∃ k : Nat, k ≤ s.size ∧ i = .int .i64 k ∧ a = .int .i64 (sumA (s.data.toList.take k)) ∧ b = .int .i64 (sumB (s.data.toList.take k))) (fun _ _ i => s.size - (intOf i).toNat)
  case atStart => exact ⟨0, Nat.zero_le _, rfl, rfl, rfl⟩
  case round =>
    obtain ⟨k, hk, rfl, rfl, rfl⟩ := hrel
    obtain ⟨ha0, ha1, hb0, hb1⟩ := sums_bd (s.data.toList.take k)
    by_cases hlt : k < s.size
    · obtain ⟨hc0, hc1⟩ := u8_bd s[k]
      have hA := sumA_snoc (s.data.toList.take k) s[k]
      have hB := sumB_snoc (s.data.toList.take k) s[k]
      rw [← take_snoc s k hlt] at hA hB
      have HA := Lib.hid hA
      have HB := Lib.hid hB
      clear hA hB
      go_wp2
      all_goals
        go_round
        case rel => exact ⟨k + 1, by omega, by go_num, by rw [HA.out], by rw [HB.out]⟩
        case measure => simp [intOf]; omega
    · go_wp2
      go_ret
      exact ⟨ret_int (by rw [List.take_of_length_le (by simp; omega)]; rfl), rfl⟩

set_option maxHeartbeats 400000 in
theorem impl_sum (s : ByteArray) (w : World) (hs : s.size ≤ maxLen) :
    Calls Tryz.prog 101 #[.string s] w fun e w' => e = .returned (.int .i64 (sumT s.data.toList)) ∧ w = w' := by
  unfold maxLen at hs
  go_enter Tryz.func101, Tryz.ntmps101
  go_wp2
  go_loop [3, 4, 8] (fun a b i => ∃ k : Nat, k ≤ s.size ∧ i = .int .i64 k ∧ a = .int .i64 (sumA (s.data.toList.take k)) ∧ b = .int .i64 (sumB (s.data.toList.take k))) (fun _ _ i => s.size - (intOf i).toNat)
  case atStart => exact ⟨0, Nat.zero_le _, rfl, rfl, rfl⟩
  case round =>
    obtain ⟨k, hk, rfl, rfl, rfl⟩ := hrel
    obtain ⟨ha0, ha1, hb0, hb1⟩ := sums_bd (s.data.toList.take k)
    by_cases hlt : k < s.size
    · obtain ⟨hc0, hc1⟩ := u8_bd s[k]
      have hA := sumA_snoc (s.data.toList.take k) s[k]
      have hB := sumB_snoc (s.data.toList.take k) s[k]
      rw [← take_snoc s k hlt] at hA hB
      have HA := Lib.hid hA
      have HB := Lib.hid hB
      clear hA hB
      go_wp2
      all_goals
        go_round
        case rel => exact ⟨k + 1, by omega, by go_num, by rw [HA.out], by rw [HB.out, Int.add_comm]⟩
        case measure => simp [intOf]; omega
    · go_wp2
      go_ret
      exact ⟨ret_int (by rw [List.take_of_length_le (by simp; omega)]; rfl), rfl⟩

end Go.Proofs.YtjmfefaoenmppaaGreatDoor

namespace Go.Proofs.YtjmfefaoenmppaaGreatDoor
open Go.RowKit

def HP (w : World) (a b c d e : Int) (W : World) : Prop :=
  W.cell? ⟨w.heap.size, 0, none⟩ = some (.int .i64 a) ∧ W.cell? ⟨w.heap.size, 1, none⟩ = some (.int .i64 b) ∧ W.cell? ⟨w.heap.size, 2, none⟩ = some (.int .i64 c) ∧ W.cell? ⟨w.heap.size, 3, none⟩ = some (.int .i64 d) ∧ W.cell? ⟨w.heap.size, 4, none⟩ = some (.int .i64 e) ∧ w.heap.size < W.heap.size ∧ Below w.heap.size w W
theorem HP.next {w W W' : World} {a b c d e : Int} (h : HP w a b c d e W) (hb : Below W.heap.size W W') : HP w a b c d e W' := by
  obtain ⟨h0, h1, h2, h3, h4, hl, hw⟩ := h
  exact ⟨(hb.cell hl).trans h0, (hb.cell hl).trans h1, (hb.cell hl).trans h2, (hb.cell hl).trans h3, (hb.cell hl).trans h4, Nat.lt_of_lt_of_le hl hb.size, hw.trans (hb.mono hw.size)⟩
theorem HP.drew {w W : World} {a b c d e : Int} (h : HP w a b c d e W) : HP w a b c d e W.drew := ⟨h.1, h.2.1, h.2.2.1, h.2.2.2.1, h.2.2.2.2.1, h.2.2.2.2.2.1, h.2.2.2.2.2.2.drew⟩

theorem HP.new (w : World) (a b c d e : Int) (t : TypeId) : HP w a b c d e (w.alloc (.cells #[.int .i64 a, .int .i64 b, .int .i64 c, .int .i64 d, .int .i64 e] t)) :=
  ⟨by rw [World.cell?_alloc_mark]; rfl, by rw [World.cell?_alloc_mark]; rfl, by rw [World.cell?_alloc_mark]; rfl, by rw [World.cell?_alloc_mark]; rfl, by rw [World.cell?_alloc_mark]; rfl, by simp, bel_new (Below.refl _ _) _⟩

def fitsB (a b c d e : Int) (s : ByteArray) : Bool := isOk a b c d e && !isHole a b c d e && (c == (s.size : Int)) && (d == sumT s.data.toList)

set_option maxHeartbeats 1000000 in
theorem m_fits (a b c d e : Int) (s : ByteArray) (w : World) (hs : s.size ≤ maxLen) : Calls Tryz.prog 83 #[.agg #[.int .i64 a, .int .i64 b, .int .i64 c, .int .i64 d, .int .i64 e], .string s] w fun r w' => r = .returned (.bool ((c == (s.size : Int)) && (d == sumT s.data.toList))) ∧ Below w.heap.size w w' := by
  have hS : ∀ w, Calls Tryz.prog 101 #[.string s] w fun r w' => r = .returned (.int .i64 (sumT s.data.toList)) ∧ w' = w := fun w => (impl_sum s w hs).mono fun r w' ⟨h1, h2⟩ => ⟨h1, h2.symm⟩
  obtain ⟨z, hz⟩ : ∃ z, z = sumT s.data.toList := ⟨_, rfl⟩
  rw [← hz] at hS ⊢
  clear hz
  by_cases hc : c = (s.size : Int)
  · have hq : (c == (s.size : Int)) = true := by simp [hc]
    have hqd : decide (c = (s.size : Int)) = true := by simp [hc]
    by_cases hd : d = z
    · have hq2 : (d == z) = true := by simp [hd]
      have hq2d : decide (d = z) = true := by simp [hd]
      rw [hq, hq2]
      clear hc hd
      go_enter Tryz.func83, Tryz.ntmps83
      go_wp2_with fail
      go_quiet ((go_at_call 101; exact Calls.quiet_of_same (hS _)))
      go_wp2_with fail
      go_ret
      exact ⟨rfl, below_drewN (bel_new (Below.refl _ _) _) _⟩
    · have hq2 : (d == z) = false := by simp [hd]
      have hq2d : decide (d = z) = false := by simp [hd]
      rw [hq, hq2]
      clear hc hd
      go_enter Tryz.func83, Tryz.ntmps83
      go_wp2_with fail
      go_quiet ((go_at_call 101; exact Calls.quiet_of_same (hS _)))
      go_wp2_with fail
      go_ret
      exact ⟨rfl, below_drewN (bel_new (Below.refl _ _) _) _⟩
  · have hq : (c == (s.size : Int)) = false := by simp [hc]
    have hqd : decide (c = (s.size : Int)) = false := by simp [hc]
    rw [hq]
    clear hc
    go_enter Tryz.func83, Tryz.ntmps83
    go_wp2_with fail
    go_quiet ((go_at_call 101; exact Calls.quiet_of_same (hS _)))
    go_wp2_with fail
    go_ret
    exact ⟨rfl, below_drewN (bel_new (Below.refl _ _) _) _⟩
end Go.Proofs.YtjmfefaoenmppaaGreatDoor

namespace Go.Proofs.YtjmfefaoenmppaaGreatDoor
open Go.RowKit
set_option linter.unusedVariables false

set_option maxHeartbeats 6000000 in
theorem fits_a (a b c d e z : Int) (s : ByteArray) (w : World) (h x y : Bool)
    (hO : ∀ w, Calls Tryz.prog 71 #[.agg #[.int .i64 a, .int .i64 b, .int .i64 c, .int .i64 d, .int .i64 e]] w fun r w' => r = .returned (.bool false) ∧ Below w.heap.size w w')
    (hM : ∀ w, Calls Tryz.prog 72 #[.agg #[.int .i64 a, .int .i64 b, .int .i64 c, .int .i64 d, .int .i64 e]] w fun r w' => r = .returned (.bool h) ∧ Below w.heap.size w w')
    (hS : ∀ w, Calls Tryz.prog 116 #[.string s] w fun r w' => r = .returned (.int .i64 z) ∧ Below w.heap.size w w')
    (hx : (c == (s.size : Int)) = x) (hxd : decide (c = (s.size : Int)) = x) (hy : (d == z) = y) (hyd : decide (d = z) = y) :
    Calls Tryz.prog 92 #[.agg #[.int .i64 a, .int .i64 b, .int .i64 c, .int .i64 d, .int .i64 e], .string s] w fun r w' => r = .returned (.bool (false && !h && x && y)) ∧ Below w.heap.size w w' := by
  have H3 := (HP.new w a b c d e 40).drew
  go_enter Tryz.func92, Tryz.ntmps92
  go_wp2_with fail
  first
    | go_region_with (first | (go_at_call 71; refine (hO _).mono ?_; rintro r w1 ⟨rfl, hb⟩; have hp := H3.next hb; obtain ⟨q0, q1, q2, q3, q4, ql, qb⟩ := id hp) | (go_at_call 72; refine (hM _).mono ?_; rintro r w1 ⟨rfl, hb⟩; have hp := hp.next hb; obtain ⟨q0, q1, q2, q3, q4, ql, qb⟩ := id hp) | (go_at_call 116; refine (hS _).mono ?_; rintro r w1 ⟨rfl, hb⟩; have hp := hp.next hb; obtain ⟨q0, q1, q2, q3, q4, ql, qb⟩ := id hp))
    | fail "region"
  all_goals go_wp2_with fail
  all_goals go_ret
  all_goals exact ⟨rfl, qb⟩

end Go.Proofs.YtjmfefaoenmppaaGreatDoor

namespace Go.Proofs.YtjmfefaoenmppaaGreatDoor
open Go.RowKit
set_option linter.unusedVariables false

set_option maxHeartbeats 6000000 in
theorem fits_b (a b c d e z : Int) (s : ByteArray) (w : World) (x y : Bool)
    (hO : ∀ w, Calls Tryz.prog 71 #[.agg #[.int .i64 a, .int .i64 b, .int .i64 c, .int .i64 d, .int .i64 e]] w fun r w' => r = .returned (.bool true) ∧ Below w.heap.size w w')
    (hM : ∀ w, Calls Tryz.prog 72 #[.agg #[.int .i64 a, .int .i64 b, .int .i64 c, .int .i64 d, .int .i64 e]] w fun r w' => r = .returned (.bool true) ∧ Below w.heap.size w w')
    (hS : ∀ w, Calls Tryz.prog 116 #[.string s] w fun r w' => r = .returned (.int .i64 z) ∧ Below w.heap.size w w')
    (hx : (c == (s.size : Int)) = x) (hxd : decide (c = (s.size : Int)) = x) (hy : (d == z) = y) (hyd : decide (d = z) = y) :
    Calls Tryz.prog 92 #[.agg #[.int .i64 a, .int .i64 b, .int .i64 c, .int .i64 d, .int .i64 e], .string s] w fun r w' => r = .returned (.bool (true && !true && x && y)) ∧ Below w.heap.size w w' := by
  have H3 := (HP.new w a b c d e 40).drew
  go_enter Tryz.func92, Tryz.ntmps92
  go_wp2_with fail
  first
    | go_region_with (first | (go_at_call 71; refine (hO _).mono ?_; rintro r w1 ⟨rfl, hb⟩; have hp := H3.next hb; obtain ⟨q0, q1, q2, q3, q4, ql, qb⟩ := id hp) | (go_at_call 72; refine (hM _).mono ?_; rintro r w1 ⟨rfl, hb⟩; have hp := hp.next hb; obtain ⟨q0, q1, q2, q3, q4, ql, qb⟩ := id hp) | (go_at_call 116; refine (hS _).mono ?_; rintro r w1 ⟨rfl, hb⟩; have hp := hp.next hb; obtain ⟨q0, q1, q2, q3, q4, ql, qb⟩ := id hp))
    | fail "region"
  all_goals go_wp2_with fail
  all_goals go_ret
  all_goals exact ⟨rfl, qb⟩

end Go.Proofs.YtjmfefaoenmppaaGreatDoor

namespace Go.Proofs.YtjmfefaoenmppaaGreatDoor
open Go.RowKit
set_option linter.unusedVariables false

set_option maxHeartbeats 6000000 in
theorem fits_c (a b c d e z : Int) (s : ByteArray) (w : World) (y : Bool)
    (hO : ∀ w, Calls Tryz.prog 71 #[.agg #[.int .i64 a, .int .i64 b, .int .i64 c, .int .i64 d, .int .i64 e]] w fun r w' => r = .returned (.bool true) ∧ Below w.heap.size w w')
    (hM : ∀ w, Calls Tryz.prog 72 #[.agg #[.int .i64 a, .int .i64 b, .int .i64 c, .int .i64 d, .int .i64 e]] w fun r w' => r = .returned (.bool false) ∧ Below w.heap.size w w')
    (hS : ∀ w, Calls Tryz.prog 116 #[.string s] w fun r w' => r = .returned (.int .i64 z) ∧ Below w.heap.size w w')
    (hx : (c == (s.size : Int)) = false) (hxd : decide (c = (s.size : Int)) = false) (hy : (d == z) = y) (hyd : decide (d = z) = y) :
    Calls Tryz.prog 92 #[.agg #[.int .i64 a, .int .i64 b, .int .i64 c, .int .i64 d, .int .i64 e], .string s] w fun r w' => r = .returned (.bool (true && !false && false && y)) ∧ Below w.heap.size w w' := by
  have H3 := (HP.new w a b c d e 40).drew
  go_enter Tryz.func92, Tryz.ntmps92
  go_wp2_with fail
  first
    | go_region_with (first | (go_at_call 71; refine (hO _).mono ?_; rintro r w1 ⟨rfl, hb⟩; have hp := H3.next hb; obtain ⟨q0, q1, q2, q3, q4, ql, qb⟩ := id hp) | (go_at_call 72; refine (hM _).mono ?_; rintro r w1 ⟨rfl, hb⟩; have hp := hp.next hb; obtain ⟨q0, q1, q2, q3, q4, ql, qb⟩ := id hp) | (go_at_call 116; refine (hS _).mono ?_; rintro r w1 ⟨rfl, hb⟩; have hp := hp.next hb; obtain ⟨q0, q1, q2, q3, q4, ql, qb⟩ := id hp))
    | fail "region"
  all_goals go_wp2_with fail
  all_goals go_ret
  all_goals exact ⟨rfl, qb⟩

end Go.Proofs.YtjmfefaoenmppaaGreatDoor

namespace Go.Proofs.YtjmfefaoenmppaaGreatDoor
open Go.RowKit
set_option linter.unusedVariables false

set_option maxHeartbeats 6000000 in
theorem fits_d1 (a b c d e z : Int) (s : ByteArray) (w : World)
    (hO : ∀ w, Calls Tryz.prog 71 #[.agg #[.int .i64 a, .int .i64 b, .int .i64 c, .int .i64 d, .int .i64 e]] w fun r w' => r = .returned (.bool true) ∧ Below w.heap.size w w')
    (hM : ∀ w, Calls Tryz.prog 72 #[.agg #[.int .i64 a, .int .i64 b, .int .i64 c, .int .i64 d, .int .i64 e]] w fun r w' => r = .returned (.bool false) ∧ Below w.heap.size w w')
    (hS : ∀ w, Calls Tryz.prog 116 #[.string s] w fun r w' => r = .returned (.int .i64 z) ∧ Below w.heap.size w w')
    (hx : (c == (s.size : Int)) = true) (hxd : decide (c = (s.size : Int)) = true) (hy : (d == z) = false) (hyd : decide (d = z) = false) :
    Calls Tryz.prog 92 #[.agg #[.int .i64 a, .int .i64 b, .int .i64 c, .int .i64 d, .int .i64 e], .string s] w fun r w' => r = .returned (.bool (true && !false && true && false)) ∧ Below w.heap.size w w' := by
  have H3 := (HP.new w a b c d e 40).drew
  go_enter Tryz.func92, Tryz.ntmps92
  go_wp2_with fail
  first
    | go_region_with (first | (go_at_call 71; refine (hO _).mono ?_; rintro r w1 ⟨rfl, hb⟩; have hp := H3.next hb; obtain ⟨q0, q1, q2, q3, q4, ql, qb⟩ := id hp) | (go_at_call 72; refine (hM _).mono ?_; rintro r w1 ⟨rfl, hb⟩; have hp := hp.next hb; obtain ⟨q0, q1, q2, q3, q4, ql, qb⟩ := id hp) | (go_at_call 116; refine (hS _).mono ?_; rintro r w1 ⟨rfl, hb⟩; have hp := hp.next hb; obtain ⟨q0, q1, q2, q3, q4, ql, qb⟩ := id hp))
    | fail "region"
  all_goals go_wp2_with fail
  all_goals go_ret
  all_goals exact ⟨rfl, qb⟩

set_option maxHeartbeats 6000000 in
theorem fits_d2 (a b c d e z : Int) (s : ByteArray) (w : World)
    (hO : ∀ w, Calls Tryz.prog 71 #[.agg #[.int .i64 a, .int .i64 b, .int .i64 c, .int .i64 d, .int .i64 e]] w fun r w' => r = .returned (.bool true) ∧ Below w.heap.size w w')
    (hM : ∀ w, Calls Tryz.prog 72 #[.agg #[.int .i64 a, .int .i64 b, .int .i64 c, .int .i64 d, .int .i64 e]] w fun r w' => r = .returned (.bool false) ∧ Below w.heap.size w w')
    (hS : ∀ w, Calls Tryz.prog 116 #[.string s] w fun r w' => r = .returned (.int .i64 z) ∧ Below w.heap.size w w')
    (hx : (c == (s.size : Int)) = true) (hxd : decide (c = (s.size : Int)) = true) (hy : (d == z) = true) (hyd : decide (d = z) = true) :
    Calls Tryz.prog 92 #[.agg #[.int .i64 a, .int .i64 b, .int .i64 c, .int .i64 d, .int .i64 e], .string s] w fun r w' => r = .returned (.bool (true && !false && true && true)) ∧ Below w.heap.size w w' := by
  have H3 := (HP.new w a b c d e 40).drew
  go_enter Tryz.func92, Tryz.ntmps92
  go_wp2_with fail
  first
    | go_region_with (first | (go_at_call 71; refine (hO _).mono ?_; rintro r w1 ⟨rfl, hb⟩; have hp := H3.next hb; obtain ⟨q0, q1, q2, q3, q4, ql, qb⟩ := id hp) | (go_at_call 72; refine (hM _).mono ?_; rintro r w1 ⟨rfl, hb⟩; have hp := hp.next hb; obtain ⟨q0, q1, q2, q3, q4, ql, qb⟩ := id hp) | (go_at_call 116; refine (hS _).mono ?_; rintro r w1 ⟨rfl, hb⟩; have hp := hp.next hb; obtain ⟨q0, q1, q2, q3, q4, ql, qb⟩ := id hp))
    | fail "region"
  all_goals go_wp2_with fail
  all_goals go_ret
  all_goals exact ⟨rfl, qb⟩

end Go.Proofs.YtjmfefaoenmppaaGreatDoor

namespace Go.Proofs.YtjmfefaoenmppaaGreatDoor
open Go.RowKit

theorem dec_beq (x y : Int) : decide (x = y) = (x == y) := by by_cases h : x = y <;> simp [h]

theorem spec_fits (a b c d e : Int) (s : ByteArray) (w : World) (hs : s.size ≤ maxLen) : Calls Tryz.prog 92 #[.agg #[.int .i64 a, .int .i64 b, .int .i64 c, .int .i64 d, .int .i64 e], .string s] w fun r w' => r = .returned (.bool (fitsB a b c d e s)) ∧ Below w.heap.size w w' := by
  have hO : ∀ w, Calls Tryz.prog 71 #[.agg #[.int .i64 a, .int .i64 b, .int .i64 c, .int .i64 d, .int .i64 e]] w fun r w' => r = .returned (.bool (isOk a b c d e)) ∧ Below w.heap.size w w' := fun w => (spec_pok a b c d e w).mono fun r w' ⟨h1, h2⟩ => ⟨h1, h2 ▸ bel_new (bel_new (Below.refl _ _) _) _⟩
  have hM : ∀ w, Calls Tryz.prog 72 #[.agg #[.int .i64 a, .int .i64 b, .int .i64 c, .int .i64 d, .int .i64 e]] w fun r w' => r = .returned (.bool (isHole a b c d e)) ∧ Below w.heap.size w w' := fun w => (spec_hole a b c d e w).mono fun r w' ⟨h1, h2⟩ => ⟨h1, h2 ▸ bel_new (Below.refl _ _) _⟩
  have hS : ∀ w, Calls Tryz.prog 116 #[.string s] w fun r w' => r = .returned (.int .i64 (sumT s.data.toList)) ∧ Below w.heap.size w w' := fun w => (spec_sum s w hs).mono fun r w' ⟨h1, h2⟩ => ⟨h1, h2 ▸ Below.refl _ _⟩
  unfold fitsB
  generalize sumT s.data.toList = z at hS ⊢
  cases ho : isOk a b c d e <;> rw [ho] at hO
  · exact fits_a a b c d e z s w (isHole a b c d e) _ _ hO hM hS rfl (dec_beq _ _) rfl (dec_beq _ _)
  · cases hh : isHole a b c d e <;> rw [hh] at hM
    · cases hx : (c == (s.size : Int))
      · exact fits_c a b c d e z s w _ hO hM hS hx ((dec_beq _ _).trans hx) rfl (dec_beq _ _)
      · cases hy : (d == z)
        · exact fits_d1 a b c d e z s w hO hM hS hx ((dec_beq _ _).trans hx) hy ((dec_beq _ _).trans hy)
        · exact fits_d2 a b c d e z s w hO hM hS hx ((dec_beq _ _).trans hx) hy ((dec_beq _ _).trans hy)
    · exact fits_b a b c d e z s w _ _ hO hM hS rfl (dec_beq _ _) rfl (dec_beq _ _)
end Go.Proofs.YtjmfefaoenmppaaGreatDoor

namespace Go.Proofs.YtjmfefaoenmppaaGreatDoor
open Go.RowKit

def fitP (p : P5) (t : ByteArray) : Bool := (p.c == (t.size : Int)) && (p.d == sumT t.data.toList)
/-- What a valid pointer leads to in a store. -/
def readC (s : St) (p : P5) : ByteArray × Bool := if p.hole = true then (b0, true) else if fitP p (s.rows.getD p.a.toNat b0) = true then (s.rows.getD p.a.toNat b0, true) else (b0, false)
def readSt (s : St) (p : P5) : ByteArray × Bool := if StOk s ∧ p.ok = true then readC s p else (b0, false)
theorem readSt_yes {s : St} {p : P5} (h : StOk s) (hp : p.ok = true) : readSt s p = readC s p := if_pos ⟨h, hp⟩
theorem readSt_no {s : St} {p : P5} (h : ¬ (StOk s ∧ p.ok = true)) : readSt s p = (b0, false) := if_neg h
def RdPost (q : ByteArray × Bool) (w : World) (r : Ending) (w' : World) : Prop := r = .returned (.tuple #[.string q.1, .bool q.2]) ∧ Below w.heap.size w w'
/-- The cells that a reading loads. -/
def KR (H G B i : Nat) (A : Value) (a b c d e : Int) (t : ByteArray) (cur W : World) : Prop :=
  W.cell? ⟨H, 0, none⟩ = some A ∧ W.cell? ⟨G, 0, none⟩ = some (.int .i64 a) ∧ W.cell? ⟨G, 1, none⟩ = some (.int .i64 b) ∧ W.cell? ⟨G, 2, none⟩ = some (.int .i64 c) ∧ W.cell? ⟨G, 3, none⟩ = some (.int .i64 d) ∧ W.cell? ⟨G, 4, none⟩ = some (.int .i64 e) ∧ W.cell? ⟨B, i, none⟩ = some (.string t) ∧ H < W.heap.size ∧ G < W.heap.size ∧ B < W.heap.size ∧ Below cur.heap.size cur W
theorem KR.next {H G B i : Nat} {A : Value} {a b c d e : Int} {t : ByteArray} {cur W W' : World} (h : KR H G B i A a b c d e t cur W) (hb : Below W.heap.size W W') : KR H G B i A a b c d e t cur W' := by
  obtain ⟨h0, h1, h2, h3, h4, h5, h6, hH, hG, hB, hx⟩ := h
  exact ⟨(hb.cell (p := ⟨H, 0, none⟩) hH).trans h0, (hb.cell (p := ⟨G, 0, none⟩) hG).trans h1, (hb.cell (p := ⟨G, 1, none⟩) hG).trans h2, (hb.cell (p := ⟨G, 2, none⟩) hG).trans h3, (hb.cell (p := ⟨G, 3, none⟩) hG).trans h4, (hb.cell (p := ⟨G, 4, none⟩) hG).trans h5, (hb.cell (p := ⟨B, i, none⟩) hB).trans h6, Nat.lt_of_lt_of_le hH hb.size, Nat.lt_of_lt_of_le hG hb.size, Nat.lt_of_lt_of_le hB hb.size, bel_then hx hb⟩
theorem KR.drew {H G B i : Nat} {A : Value} {a b c d e : Int} {t : ByteArray} {cur W : World} (h : KR H G B i A a b c d e t cur W) : KR H G B i A a b c d e t cur W.drew := h.next (Below.refl _ _).drew
/-- A block of five cells. -/
def B5 (W : World) (g : Nat) (a b c d e : Int) : Prop := W.cell? ⟨g, 0, none⟩ = some (.int .i64 a) ∧ W.cell? ⟨g, 1, none⟩ = some (.int .i64 b) ∧ W.cell? ⟨g, 2, none⟩ = some (.int .i64 c) ∧ W.cell? ⟨g, 3, none⟩ = some (.int .i64 d) ∧ W.cell? ⟨g, 4, none⟩ = some (.int .i64 e) ∧ g < W.heap.size
theorem B5.new (w : World) (a b c d e : Int) (t : TypeId) : B5 (w.alloc (.cells #[.int .i64 a, .int .i64 b, .int .i64 c, .int .i64 d, .int .i64 e] t)) w.heap.size a b c d e := by
  have h := HP.new w a b c d e t
  exact ⟨h.1, h.2.1, h.2.2.1, h.2.2.2.1, h.2.2.2.2.1, h.2.2.2.2.2.1⟩
theorem B5.below {W W' : World} {g : Nat} {a b c d e : Int} (h : B5 W g a b c d e) (hb : Below W.heap.size W W') : B5 W' g a b c d e := by
  obtain ⟨h0, h1, h2, h3, h4, hl⟩ := h
  exact ⟨(hb.cell (p := ⟨g, 0, none⟩) hl).trans h0, (hb.cell (p := ⟨g, 1, none⟩) hl).trans h1, (hb.cell (p := ⟨g, 2, none⟩) hl).trans h2, (hb.cell (p := ⟨g, 3, none⟩) hl).trans h3, (hb.cell (p := ⟨g, 4, none⟩) hl).trans h4, Nat.lt_of_lt_of_le hl hb.size⟩
theorem B5.only {W W' : World} {g lo hi : Nat} {a b c d e : Int} (h : B5 W g a b c d e) (hg : Only lo hi W W') (hn : ¬ (lo ≤ g ∧ g < hi)) : B5 W' g a b c d e := by
  obtain ⟨h0, h1, h2, h3, h4, hl⟩ := h
  have hb := hg.block g hl hn
  exact ⟨(World.cell?_of_block (a := ⟨g, 0, none⟩) hb).trans h0, (World.cell?_of_block (a := ⟨g, 1, none⟩) hb).trans h1, (World.cell?_of_block (a := ⟨g, 2, none⟩) hb).trans h2, (World.cell?_of_block (a := ⟨g, 3, none⟩) hb).trans h3, (World.cell?_of_block (a := ⟨g, 4, none⟩) hb).trans h4, Nat.lt_of_lt_of_le hl hg.size⟩
theorem readC_hole {s : St} {p : P5} (h : p.hole = true) : readC s p = (b0, true) := if_pos h
theorem readC_fit {s : St} {p : P5} (h : p.hole = false) (hf : fitP p (s.rows.getD p.a.toNat b0) = true) : readC s p = (s.rows.getD p.a.toNat b0, true) := by unfold readC; rw [if_neg (by rw [h]; decide), if_pos hf]
theorem readC_un {s : St} {p : P5} (h : p.hole = false) (hf : fitP p (s.rows.getD p.a.toNat b0) = false) : readC s p = (b0, false) := by unfold readC; rw [if_neg (by rw [h]; decide), if_neg (by rw [hf]; decide)]

set_option maxRecDepth 100000 in
set_option maxHeartbeats 4000000 in
theorem impl_mread (x : SA) (s : St) (a b c d e : Int) (w : World) (hok : StOk s) (ht : ∀ t ∈ s.rows, t.size ≤ maxLen) (hA : StAt w x s) (hp : isOk a b c d e = true) :
    Calls Tryz.prog 57 #[(.agg #[.slice x.A s.rows.length x.a, .slice x.R s.sp.refs.length x.r, .slice x.L s.sp.last.length x.l, .int .i64 s.txg, .slice x.G s.gone.length x.g, .int .i64 s.keep, .slice x.D s.dead.length x.d, .bool s.same]), .agg #[.int .i64 a, .int .i64 b, .int .i64 c, .int .i64 d, .int .i64 e]] w (RdPost (readC s ⟨a, b, c, d, e⟩) w) := by
  have c0 := (B8.new w 38 (.slice x.A s.rows.length x.a) (.slice x.R s.sp.refs.length x.r) (.slice x.L s.sp.last.length x.l) (.int .i64 s.txg) (.slice x.G s.gone.length x.g) (.int .i64 s.keep) (.slice x.D s.dead.length x.d) (.bool s.same)).alloc (.cells #[.int .i64 a, .int .i64 b, .int .i64 c, .int .i64 d, .int .i64 e] 40)
  have g0 := B5.new (w.alloc (.cells #[.slice x.A s.rows.length x.a, .slice x.R s.sp.refs.length x.r, .slice x.L s.sp.last.length x.l, .int .i64 s.txg, .slice x.G s.gone.length x.g, .int .i64 s.keep, .slice x.D s.dead.length x.d, .bool s.same] 38)) a b c d e 40
  have BB : Below w.heap.size w ((w.alloc (.cells #[.slice x.A s.rows.length x.a, .slice x.R s.sp.refs.length x.r, .slice x.L s.sp.last.length x.l, .int .i64 s.txg, .slice x.G s.gone.length x.g, .int .i64 s.keep, .slice x.D s.dead.length x.d, .bool s.same] 38)).alloc (.cells #[.int .i64 a, .int .i64 b, .int .i64 c, .int .i64 d, .int .i64 e] 40)) := bel_new (bel_new (Below.refl _ _) _) _
  rw [World.size_alloc] at g0
  have hH := fun W => m_hole a b c d e W
  cases hh : isHole a b c d e with
  | true =>
    rw [readC_hole (p := ⟨a, b, c, d, e⟩) hh]
    rw [hh] at hH
    clear hok ht hA hp hh
    go_enter Tryz.func57, Tryz.ntmps57
    go_wp2_with (go_at_call 68; refine (hH _).mono ?_; rintro r w2 ⟨rfl, rfl⟩)
    go_ret2
    exact ⟨rfl, bel_new BB _⟩
  | false =>
    rw [hh] at hH
    have hbd := P5.ok_bounds (p := ⟨a, b, c, d, e⟩) hp hh
    obtain ⟨n, hn⟩ : ∃ n : Nat, a = (n : Int) := ⟨a.toNat, by have := hbd.1.1; simp only at this; omega⟩
    subst hn
    have hn64 : n < s.rows.length := by have := hbd.1.2; have := hok.len; simp only at *; omega
    have hn64i : (n : Int) < (s.rows.length : Int) := by omega
    obtain ⟨bk, of, hxA, hlb, hcell⟩ := hA.rows.str n hn64
    obtain ⟨t, htt⟩ : ∃ t, t = s.rows[n] := ⟨_, rfl⟩
    rw [← htt] at hcell
    have hget : s.rows.getD n Go.Proofs.YtjmfefaoenmppaaGreatDoor.b0 = t := by rw [List.getD_eq_getElem?_getD, List.getElem?_eq_getElem hn64, Option.getD_some, htt]
    have htz : t.size ≤ maxLen := by rw [htt]; exact ht _ (List.getElem_mem hn64)
    have hyes := readC_fit (s := s) (p := ⟨(n : Int), b, c, d, e⟩) hh
    have hnot := readC_un (s := s) (p := ⟨(n : Int), b, c, d, e⟩) hh
    simp only [Int.toNat_natCast, hget] at hyes hnot
    have hF := fun W => m_fits (n : Int) b c d e t W htz
    have hcell2 := (BB.cell (p := ⟨bk, of + n, none⟩) hlb).trans hcell
    have hlb2 := Nat.lt_of_lt_of_le hlb BB.size
    obtain ⟨xA, xa, xR, xr, xL, xl, xG, xg, xD, xd⟩ := x
    dsimp only at *
    subst hxA
    obtain ⟨Q, hQ⟩ : ∃ Q, Q = readC s ⟨(n : Int), b, c, d, e⟩ := ⟨_, rfl⟩
    rw [← hQ] at hyes hnot ⊢
    obtain ⟨q, hq⟩ : ∃ q, q = fitP ⟨(n : Int), b, c, d, e⟩ t := ⟨_, rfl⟩
    rw [← hq] at hyes hnot
    unfold fitP at hq
    simp only at hq
    simp only [← hq] at hF
    have HY := Lib.hid hyes
    have HN := Lib.hid hnot
    have b2 := c0.alloc (.cells #[.int .i64 (n : Int), .int .i64 b, .int .i64 c, .int .i64 d, .int .i64 e] 40)
    have g2 := g0.below (bel_new (Below.refl _ _) (.cells #[.int .i64 (n : Int), .int .i64 b, .int .i64 c, .int .i64 d, .int .i64 e] 40))
    have B2 := bel_new BB (.cells #[.int .i64 (n : Int), .int .i64 b, .int .i64 c, .int .i64 d, .int .i64 e] 40)
    have hcell3 := ((bel_new (Below.refl _ _) (.cells #[.int .i64 (n : Int), .int .i64 b, .int .i64 c, .int .i64 d, .int .i64 e] 40)).cell (p := ⟨bk, of + n, none⟩) hlb2).trans hcell2
    have hlb3 : bk < (((w.alloc (.cells #[.slice (some ⟨bk, of, none⟩) s.rows.length xa, .slice xR s.sp.refs.length xr, .slice xL s.sp.last.length xl, .int .i64 s.txg, .slice xG s.gone.length xg, .int .i64 s.keep, .slice xD s.dead.length xd, .bool s.same] 38)).alloc (.cells #[.int .i64 (n : Int), .int .i64 b, .int .i64 c, .int .i64 d, .int .i64 e] 40)).alloc (.cells #[.int .i64 (n : Int), .int .i64 b, .int .i64 c, .int .i64 d, .int .i64 e] 40)).heap.size := Nat.lt_of_lt_of_le hlb B2.size
    have q0 : w.heap.size ≠ bk := by omega
    clear hok ht hA hp hh hbd htt hget hyes hnot hQ hq c0 g0
    go_enter Tryz.func57, Tryz.ntmps57
    go_wp2_with (go_at_call 68; refine (hH _).mono ?_; rintro r w2 ⟨rfl, rfl⟩; refine Hid.out ?_)
    refine Lib.hid ?_
    obtain ⟨W0, hW0⟩ : ∃ W, W = ((w.alloc (.cells #[.slice (some ⟨bk, of, none⟩) s.rows.length xa, .slice xR s.sp.refs.length xr, .slice xL s.sp.last.length xl, .int .i64 s.txg, .slice xG s.gone.length xg, .int .i64 s.keep, .slice xD s.dead.length xd, .bool s.same] 38)).alloc (.cells #[.int .i64 (n : Int), .int .i64 b, .int .i64 c, .int .i64 d, .int .i64 e] 40)).alloc (.cells #[.int .i64 (n : Int), .int .i64 b, .int .i64 c, .int .i64 d, .int .i64 e] 40) := ⟨_, rfl⟩
    rw [← hW0] at b2 g2 B2 hcell3 hlb3 ⊢
    clear hW0 hcell2 hlb2 BB
    obtain ⟨x0, x1, x2, x3, x4, x5, x6, x7⟩ := b2.cells
    obtain ⟨y0, y1, y2, y3, y4, hgl⟩ := id g2
    cases q with
    | true =>
      have HQ := Lib.hid (HY.out rfl)
      clear HY HN
      go_wp2_with (go_at_call 83; refine (hF _).mono ?_; rintro r w3 ⟨rfl, hb3⟩)
      go_ret2
      exact ⟨by rw [HQ.out]; rfl, bel_then B2 hb3⟩
    | false =>
      have HQ := Lib.hid (HN.out rfl)
      clear HY HN
      go_wp2_with (go_at_call 83; refine (hF _).mono ?_; rintro r w3 ⟨rfl, hb3⟩)
      go_ret2
      exact ⟨by rw [HQ.out]; rfl, bel_then B2 hb3⟩

set_option maxRecDepth 100000 in
set_option maxHeartbeats 4000000 in
theorem spec_l7read (x : SA) (s : St) (a b c d e : Int) (w : World) (hok : StOk s) (ht : ∀ t ∈ s.rows, t.size ≤ maxLen) (hA : StAt w x s) (hp : isOk a b c d e = true) :
    Calls Tryz.prog 74 #[(.agg #[.slice x.A s.rows.length x.a, .slice x.R s.sp.refs.length x.r, .slice x.L s.sp.last.length x.l, .int .i64 s.txg, .slice x.G s.gone.length x.g, .int .i64 s.keep, .slice x.D s.dead.length x.d, .bool s.same]), .agg #[.int .i64 a, .int .i64 b, .int .i64 c, .int .i64 d, .int .i64 e]] w (RdPost (readC s ⟨a, b, c, d, e⟩) w) := by
  have c0 := (B8.new w 38 (.slice x.A s.rows.length x.a) (.slice x.R s.sp.refs.length x.r) (.slice x.L s.sp.last.length x.l) (.int .i64 s.txg) (.slice x.G s.gone.length x.g) (.int .i64 s.keep) (.slice x.D s.dead.length x.d) (.bool s.same)).alloc (.cells #[.int .i64 a, .int .i64 b, .int .i64 c, .int .i64 d, .int .i64 e] 40)
  have g0 := B5.new (w.alloc (.cells #[.slice x.A s.rows.length x.a, .slice x.R s.sp.refs.length x.r, .slice x.L s.sp.last.length x.l, .int .i64 s.txg, .slice x.G s.gone.length x.g, .int .i64 s.keep, .slice x.D s.dead.length x.d, .bool s.same] 38)) a b c d e 40
  have BB : Below w.heap.size w ((w.alloc (.cells #[.slice x.A s.rows.length x.a, .slice x.R s.sp.refs.length x.r, .slice x.L s.sp.last.length x.l, .int .i64 s.txg, .slice x.G s.gone.length x.g, .int .i64 s.keep, .slice x.D s.dead.length x.d, .bool s.same] 38)).alloc (.cells #[.int .i64 a, .int .i64 b, .int .i64 c, .int .i64 d, .int .i64 e] 40)) := bel_new (bel_new (Below.refl _ _) _) _
  rw [World.size_alloc] at g0
  have hH := fun W => spec_hole a b c d e W
  cases hh : isHole a b c d e with
  | true =>
    rw [readC_hole (p := ⟨a, b, c, d, e⟩) hh]
    rw [hh] at hH
    clear hok ht hA hp hh
    go_enter Tryz.func74, Tryz.ntmps74
    go_wp2_with (go_at_call 72; refine (hH _).mono ?_; rintro r w2 ⟨rfl, rfl⟩)
    go_ret2
    exact ⟨rfl, bel_new BB _⟩
  | false =>
    rw [hh] at hH
    have hbd := P5.ok_bounds (p := ⟨a, b, c, d, e⟩) hp hh
    obtain ⟨n, hn⟩ : ∃ n : Nat, a = (n : Int) := ⟨a.toNat, by have := hbd.1.1; simp only at this; omega⟩
    subst hn
    have hn64 : n < s.rows.length := by have := hbd.1.2; have := hok.len; simp only at *; omega
    have hn64i : (n : Int) < (s.rows.length : Int) := by omega
    obtain ⟨bk, of, hxA, hlb, hcell⟩ := hA.rows.str n hn64
    obtain ⟨t, htt⟩ : ∃ t, t = s.rows[n] := ⟨_, rfl⟩
    rw [← htt] at hcell
    have hget : s.rows.getD n Go.Proofs.YtjmfefaoenmppaaGreatDoor.b0 = t := by rw [List.getD_eq_getElem?_getD, List.getElem?_eq_getElem hn64, Option.getD_some, htt]
    have htz : t.size ≤ maxLen := by rw [htt]; exact ht _ (List.getElem_mem hn64)
    have hyes := readC_fit (s := s) (p := ⟨(n : Int), b, c, d, e⟩) hh
    have hnot := readC_un (s := s) (p := ⟨(n : Int), b, c, d, e⟩) hh
    simp only [Int.toNat_natCast, hget] at hyes hnot
    have hF := fun W => ((spec_fits (n : Int) b c d e t W htz).mono (R' := fun r w' => r = .returned (.bool ((c == (t.size : Int)) && (d == sumT t.data.toList))) ∧ Below W.heap.size W w') fun r w' ⟨h1, h2⟩ => ⟨by rw [h1]; unfold fitsB; rw [show isOk (n : Int) b c d e = true from hp, hh]; simp, h2⟩)
    have hcell2 := (BB.cell (p := ⟨bk, of + n, none⟩) hlb).trans hcell
    have hlb2 := Nat.lt_of_lt_of_le hlb BB.size
    obtain ⟨xA, xa, xR, xr, xL, xl, xG, xg, xD, xd⟩ := x
    dsimp only at *
    subst hxA
    obtain ⟨Q, hQ⟩ : ∃ Q, Q = readC s ⟨(n : Int), b, c, d, e⟩ := ⟨_, rfl⟩
    rw [← hQ] at hyes hnot ⊢
    obtain ⟨q, hq⟩ : ∃ q, q = fitP ⟨(n : Int), b, c, d, e⟩ t := ⟨_, rfl⟩
    rw [← hq] at hyes hnot
    unfold fitP at hq
    simp only at hq
    simp only [← hq] at hF
    have HY := Lib.hid hyes
    have HN := Lib.hid hnot
    have b2 := c0.alloc (.cells #[.int .i64 (n : Int), .int .i64 b, .int .i64 c, .int .i64 d, .int .i64 e] 40)
    have g2 := g0.below (bel_new (Below.refl _ _) (.cells #[.int .i64 (n : Int), .int .i64 b, .int .i64 c, .int .i64 d, .int .i64 e] 40))
    have B2 := bel_new BB (.cells #[.int .i64 (n : Int), .int .i64 b, .int .i64 c, .int .i64 d, .int .i64 e] 40)
    have hcell3 := ((bel_new (Below.refl _ _) (.cells #[.int .i64 (n : Int), .int .i64 b, .int .i64 c, .int .i64 d, .int .i64 e] 40)).cell (p := ⟨bk, of + n, none⟩) hlb2).trans hcell2
    have hlb3 : bk < (((w.alloc (.cells #[.slice (some ⟨bk, of, none⟩) s.rows.length xa, .slice xR s.sp.refs.length xr, .slice xL s.sp.last.length xl, .int .i64 s.txg, .slice xG s.gone.length xg, .int .i64 s.keep, .slice xD s.dead.length xd, .bool s.same] 38)).alloc (.cells #[.int .i64 (n : Int), .int .i64 b, .int .i64 c, .int .i64 d, .int .i64 e] 40)).alloc (.cells #[.int .i64 (n : Int), .int .i64 b, .int .i64 c, .int .i64 d, .int .i64 e] 40)).heap.size := Nat.lt_of_lt_of_le hlb B2.size
    have q0 : w.heap.size ≠ bk := by omega
    clear hok ht hA hp hh hbd htt hget hyes hnot hQ hq c0 g0
    go_enter Tryz.func74, Tryz.ntmps74
    go_wp2_with (go_at_call 72; refine (hH _).mono ?_; rintro r w2 ⟨rfl, rfl⟩; refine Hid.out ?_)
    refine Lib.hid ?_
    obtain ⟨W0, hW0⟩ : ∃ W, W = ((w.alloc (.cells #[.slice (some ⟨bk, of, none⟩) s.rows.length xa, .slice xR s.sp.refs.length xr, .slice xL s.sp.last.length xl, .int .i64 s.txg, .slice xG s.gone.length xg, .int .i64 s.keep, .slice xD s.dead.length xd, .bool s.same] 38)).alloc (.cells #[.int .i64 (n : Int), .int .i64 b, .int .i64 c, .int .i64 d, .int .i64 e] 40)).alloc (.cells #[.int .i64 (n : Int), .int .i64 b, .int .i64 c, .int .i64 d, .int .i64 e] 40) := ⟨_, rfl⟩
    rw [← hW0] at b2 g2 B2 hcell3 hlb3 ⊢
    clear hW0 hcell2 hlb2 BB
    obtain ⟨x0, x1, x2, x3, x4, x5, x6, x7⟩ := b2.cells
    obtain ⟨y0, y1, y2, y3, y4, hgl⟩ := id g2
    have K0 : KR w.heap.size (w.heap.size + 1) bk (of + n) (.slice (some ⟨bk, of, none⟩) s.rows.length xa) n b c d e t W0 W0 := ⟨x0, y0, y1, y2, y3, y4, hcell3, b2.lt, hgl, hlb3, Below.refl _ _⟩
    have K1 := K0.drew
    have hFD := hF
    clear hF
    go_wp2_with fail
    cases q with
    | true =>
      have HQ := Lib.hid (HY.out rfl)
      clear HY HN
      go_region_held3 (fun W => W.cell? ⟨w.heap.size, 0, none⟩ = some (.slice (some ⟨bk, of, none⟩) s.rows.length xa) ∧ W.cell? ⟨w.heap.size + 1, 0, none⟩ = some (.int .i64 n) ∧ W.cell? ⟨w.heap.size + 1, 1, none⟩ = some (.int .i64 b) ∧ W.cell? ⟨w.heap.size + 1, 2, none⟩ = some (.int .i64 c) ∧ W.cell? ⟨w.heap.size + 1, 3, none⟩ = some (.int .i64 d) ∧ W.cell? ⟨w.heap.size + 1, 4, none⟩ = some (.int .i64 e) ∧ W.cell? ⟨bk, of + n, none⟩ = some (.string t) ∧ w.heap.size < W.heap.size ∧ w.heap.size + 1 < W.heap.size ∧ bk < W.heap.size ∧ Below W0.heap.size W0 W)
        ((show KR w.heap.size (w.heap.size + 1) bk (of + n) (.slice (some ⟨bk, of, none⟩) s.rows.length xa) n b c d e t W0 _; with_reducible (first | exact K0 | exact K1 | exact hk2)))
        (first | (go_at_call 92; refine (hFD _).mono ?_; rintro r w2 ⟨rfl, hb2⟩; have hk2 := K1.next hb2))
      obtain ⟨x0, y0, y1, y2, y3, y4, hcell3, hl1, hl2, hl3, W2⟩ := hk2
      go_wp2_with fail
      go_ret2
      exact ⟨by rw [HQ.out]; rfl, bel_then B2 W2⟩
    | false =>
      have HQ := Lib.hid (HN.out rfl)
      clear HY HN
      go_region_held3 (fun W => W.cell? ⟨w.heap.size, 0, none⟩ = some (.slice (some ⟨bk, of, none⟩) s.rows.length xa) ∧ W.cell? ⟨w.heap.size + 1, 0, none⟩ = some (.int .i64 n) ∧ W.cell? ⟨w.heap.size + 1, 1, none⟩ = some (.int .i64 b) ∧ W.cell? ⟨w.heap.size + 1, 2, none⟩ = some (.int .i64 c) ∧ W.cell? ⟨w.heap.size + 1, 3, none⟩ = some (.int .i64 d) ∧ W.cell? ⟨w.heap.size + 1, 4, none⟩ = some (.int .i64 e) ∧ W.cell? ⟨bk, of + n, none⟩ = some (.string t) ∧ w.heap.size < W.heap.size ∧ w.heap.size + 1 < W.heap.size ∧ bk < W.heap.size ∧ Below W0.heap.size W0 W)
        ((show KR w.heap.size (w.heap.size + 1) bk (of + n) (.slice (some ⟨bk, of, none⟩) s.rows.length xa) n b c d e t W0 _; with_reducible (first | exact K0 | exact K1 | exact hk2)))
        (first | (go_at_call 92; refine (hFD _).mono ?_; rintro r w2 ⟨rfl, hb2⟩; have hk2 := K1.next hb2))
      obtain ⟨x0, y0, y1, y2, y3, y4, hcell3, hl1, hl2, hl3, W2⟩ := hk2
      go_wp2_with fail
      go_ret2
      exact ⟨by rw [HQ.out]; rfl, bel_then B2 W2⟩

end Go.Proofs.YtjmfefaoenmppaaGreatDoor
