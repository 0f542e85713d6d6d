/-
  What a mask lets through, and what a torn write leaves.
-/
import Derived.Test.YtadgknkheachaaaCopS
import Derived.Laws.BitsAllLaws
import Derived.Laws.BitsLemmas
namespace Go.Proofs.Ytadgknkheachaaa
open Go.RowKit

theorem ofInt_i64 (a : Nat) (ha : a < 9223372036854775808) : (BitVec.ofInt 64 (a : Int)).toNat = a := by
  rw [BitVec.ofInt_natCast, BitVec.toNat_ofNat]; exact Nat.mod_eq_of_lt (by omega)
theorem i64_and_one (q : Int) (h0 : 0 ≤ q) (h1 : q ≤ 9223372036854775807) : bits .and .i64 q 1 = q % 2 := by
  obtain ⟨a, rfl⟩ : ∃ a : Nat, q = (a : Int) := ⟨q.toNat, by omega⟩
  show IntKind.i64.wrap ((BitVec.ofInt 64 (a : Int) &&& BitVec.ofInt 64 ((1 : Nat) : Int)).toNat : Int) = _
  rw [BitVec.toNat_and, ofInt_i64 a (by omega), ofInt_i64 1 (by omega), IntKind.wrap_i64, Nat.and_one_is_mod]
  omega

set_option maxRecDepth 100000 in
set_option maxHeartbeats 2000000 in
theorem mask_has (mask : Int) (i : Nat) (w : World) (h0 : 0 ≤ mask) (h1 : mask ≤ 9223372036854775807) (hi : i ≤ 1000) :
    Calls Try.prog 91 #[.int .i64 mask, .int .i64 i] w fun r w' => r = .returned (.bool (bitM mask i)) ∧ w = w' := by
  obtain ⟨k, hk⟩ : ∃ k, k = i % 60 := ⟨_, rfl⟩
  have hk60 : k < 60 := by omega
  obtain ⟨q, hq⟩ : ∃ q, q = mask / 2 ^ k := ⟨_, rfl⟩
  have hp : (1 : Int) ≤ 2 ^ k := by
    have := Nat.one_le_two_pow (n := k)
    have e : ((2 ^ k : Nat) : Int) = (2 : Int) ^ k := by simp
    omega
  have hq0 : 0 ≤ q := by rw [hq]; exact Int.ediv_nonneg h0 (by omega)
  have hq1 : q ≤ 9223372036854775807 := by
    have : q ≤ mask := by rw [hq]; exact Int.ediv_le_self _ h0
    omega
  have hb : bitM mask i = decide (q % 2 = 1) := by unfold bitM; rw [← hk, ← hq]
  have ht : (i : Int).tmod 60 = (k : Int) := by rw [hk, Int.tmod_eq_emod_of_nonneg (by omega)]; rfl
  have hm : (i : Int) % 60 = (k : Int) := by rw [hk]; rfl
  have hs : mask / 2 ^ ((k : Int)).toNat = q := by rw [Int.toNat_natCast, hq]
  have ha := i64_and_one q hq0 hq1
  have hs2 := hq.symm
  rw [hb]
  have hkk : (k : Int) ≤ 64 := by omega
  clear hk hq hp hb
  by_cases h2 : q % 2 = 1
  · have h3 : decide (q % 2 = 1) = true := by simpa using h2
    rw [h3]
    go_enter Try.func91, Try.ntmps91
    go_wp2
    go_ret
    exact ⟨by simp [*], rfl⟩
  · have h3 : decide (q % 2 = 1) = false := by simpa using h2
    rw [h3]
    go_enter Try.func91, Try.ntmps91
    go_wp2
    go_ret
    exact ⟨by simp [*], rfl⟩

theorem ext_list (s : ByteArray) (k : Nat) : (s.extract k s.size).data.toList = s.data.toList.drop k := by
  have h : (s.extract k s.size).data = s.data.extract k s.size := by simp
  rw [h, Array.toList_extract]
  simp only [List.extract_eq_take_drop]
  exact List.take_of_length_le (by simp)
theorem ext_head (s : ByteArray) (k : Nat) : (s.extract 0 k).data.toList = s.data.toList.take k := by
  have h : (s.extract 0 k).data = s.data.extract 0 k := by simp
  rw [h, Array.toList_extract]
  simp [List.extract_eq_take_drop]
theorem ext_size (s : ByteArray) (k : Nat) : (s.extract k s.size).size = s.size - k := by
  have h := congrArg List.length (ext_list s k)
  rw [List.length_drop, Array.length_toList, Array.length_toList] at h
  exact h
theorem ext_hsize (s : ByteArray) (k : Nat) : (s.extract 0 k).size = min k s.size := by
  have h := congrArg List.length (ext_head s k)
  rw [List.length_take, Array.length_toList, Array.length_toList] at h
  exact h
theorem torn_ext (old text : ByteArray) (k : Nat) (hk : k = text.size / 2) : text.extract 0 k ++ old.extract k old.size = torn old text := by
  apply bytes_inj
  subst hk
  unfold torn
  rw [strOf_toList, ByteArray.data_append, Array.toList_append, ext_head, ext_list]
theorem torn_short (old text : ByteArray) (k : Nat) (hk : k = text.size / 2) (h : old.size ≤ k) : text.extract 0 k = torn old text := by
  apply bytes_inj
  subst hk
  unfold torn
  rw [strOf_toList, ext_head, List.drop_of_length_le (by rw [Array.length_toList]; exact h), List.append_nil]

set_option maxRecDepth 100000 in
set_option maxHeartbeats 2000000 in
theorem spec_torn (old text : ByteArray) (w : World) (h1 : old.size ≤ 200) (h2 : text.size ≤ 200) :
    Calls Try.prog 90 #[.string old, .string text] w fun r w' => r = .returned (.string (torn old text)) ∧ Below w.heap.size w w' := by
  obtain ⟨k, hk⟩ : ∃ k, k = text.size / 2 := ⟨_, rfl⟩
  have hd : (text.size : Int).tdiv 2 = (k : Int) := by rw [hk, Int.tdiv_eq_ediv_of_nonneg (by omega)]; rfl
  have hd2 : (text.size : Int) / 2 = (k : Int) := by rw [hk]; rfl
  have hw := IntWalk.i64_in (k : Int) (by omega)
  have hk2 : k ≤ text.size := by omega
  have hk3 : k ≤ 100 := by omega
  have hk2' : (k : Int) ≤ (text.size : Int) := by omega
  by_cases hb : k < old.size
  · have hb1 : (k : Int) < (old.size : Int) := by omega
    have hb2 : (k : Int) ≤ (old.size : Int) := by omega
    have hadd := fun w => run_string_add_sum (P := Try.prog) w (text.extract 0 k) (old.extract k old.size) (by rw [ext_hsize, ext_size]; omega)
    rw [torn_ext old text k hk] at hadd
    clear hk
    go_enter Try.func90, Try.ntmps90
    go_wp2_with fail
    go_quiet (fail)
    go_wp2_with fail
    go_ret
    exact ⟨rfl, below_drewN (Below.refl _ _) _⟩
  · have hb1 : ¬ (k : Int) < (old.size : Int) := by omega
    have hs := torn_short old text k hk (by omega)
    have HS := Lib.hid hs
    clear hk hs
    go_enter Try.func90, Try.ntmps90
    go_wp2_with fail
    go_ret
    exact ⟨by rw [← HS.out]; rfl, Below.refl _ _⟩

set_option maxRecDepth 100000 in
set_option maxHeartbeats 2000000 in
theorem impl_torn (old text : ByteArray) (w : World) (h1 : old.size ≤ 200) (h2 : text.size ≤ 200) :
    Calls Try.prog 92 #[.string text, .string old] w fun r w' => r = .returned (.string (torn old text)) ∧ Below w.heap.size w w' := by
  obtain ⟨k, hk⟩ : ∃ k, k = text.size / 2 := ⟨_, rfl⟩
  have hd : (text.size : Int).tdiv 2 = (k : Int) := by rw [hk, Int.tdiv_eq_ediv_of_nonneg (by omega)]; rfl
  have hd2 : (text.size : Int) / 2 = (k : Int) := by rw [hk]; rfl
  have hw := IntWalk.i64_in (k : Int) (by omega)
  have hk2 : k ≤ text.size := by omega
  have hk3 : k ≤ 100 := by omega
  have hk2' : (k : Int) ≤ (text.size : Int) := by omega
  by_cases hb : k ≤ old.size
  · have hb2 : (k : Int) ≤ (old.size : Int) := by omega
    have hadd := fun w => run_string_add_sum (P := Try.prog) w (text.extract 0 k) (old.extract k old.size) (by rw [ext_hsize, ext_size]; omega)
    rw [torn_ext old text k hk] at hadd
    have hmin : min (k : Int) (old.size : Int) = (k : Int) := by omega
    clear hk
    go_enter Try.func92, Try.ntmps92
    go_wp2_with fail
    go_quiet (fail)
    go_wp2_with fail
    go_ret
    exact ⟨rfl, below_drewN (Below.refl _ _) _⟩
  · have hb2 : (old.size : Int) < (k : Int) := by omega
    have HS := Lib.hid (torn_short old text k hk (by omega))
    have hmin : min (k : Int) (old.size : Int) = (old.size : Int) := by omega
    clear hk
    go_enter Try.func92, Try.ntmps92
    go_wp2_with fail
    go_quiet (fail)
    go_wp2_with fail
    go_ret
    exact ⟨by rw [← HS.out]; rfl, below_drewN (Below.refl _ _) _⟩
end Go.Proofs.Ytadgknkheachaaa
