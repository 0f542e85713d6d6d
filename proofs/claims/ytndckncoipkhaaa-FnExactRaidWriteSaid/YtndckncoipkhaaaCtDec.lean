/-
  Decimal numerals, texts as lists of bytes, and the mark that a law writes into memory.
-/
import Derived.Test.YtndckncoipkhaaaCtLies
import Derived.WalkSpells
import Derived.Lib.ItoaNum
import Derived.Laws.BytesArg
import Derived.Deep.RegionWith
import Derived.Deep.RegionHeld3
import Derived.WalkSmall
namespace Go.Proofs.Ytndckncoipkhaaa.Cut
open Go.RowKit

theorem strOf_toList (l : List UInt8) : (strOf l).data.toList = l := by simp [strOf]
theorem strOf_size (l : List UInt8) : (strOf l).size = l.length := by simp [strOf, ByteArray.size]
theorem bytes_inj {a b : ByteArray} (h : a.data.toList = b.data.toList) : a = b := by
  cases a; cases b
  simp at h
  rw [h]
theorem strOf_app (l m : List UInt8) : strOf l ++ strOf m = strOf (l ++ m) := by
  apply bytes_inj
  rw [strOf_toList]
  simp [strOf]
theorem add_strs (P : Program) (l m : List UInt8) (h : l.length + m.length ≤ 9223372036854775807) (w : World) : (Op.stringOp .add (strOf l) (strOf m)).run P w = .ok (.string (strOf (l ++ m))) w := by
  rw [run_string_add_sum w _ _ (by rw [strOf_size, strOf_size]; exact h), strOf_app]
set_option maxRecDepth 100000 in
theorem conv_one (w : World) (B : Nat) (x : UInt8) (h : w.cell? ⟨B, 0, none⟩ = some (.int .u8 (x.toNat : Int))) :
    (convert 100 9 (.slice (some ⟨B, 0, none⟩) 1 1)).run Try.prog w = .ok (.string (strOf [x])) w := by
  have hr := run_convert_bytes_arg (P := Try.prog) w 100 5 Try.underlying100 Try.underlying5 B 0 1 1 [(x.toNat : Int)] rfl (fun i hi => by
    obtain rfl : i = 0 := by omega
    rw [h]; rfl) 9 Try.underlying9
  rw [hr]
  congr 2
  simp [strOfNums, strOf]
theorem dec_small (u : Nat) (h : u < 10) : Lib.decDigits u = [UInt8.ofNat (48 + u)] := by rw [Lib.decDigits, dif_pos h]
theorem dec_more (u : Nat) (h : ¬ u < 10) : Lib.decDigits u = Lib.decDigits (u / 10) ++ [UInt8.ofNat (48 + u % 10)] := by rw [Lib.decDigits, dif_neg h]
theorem dig_nums (a : Int) (h0 : 0 ≤ a) (h9 : a < 10) : (48 + a : Int) = ((UInt8.ofNat (48 + a.toNat)).toNat : Int) := by
  have h : (UInt8.ofNat (48 + a.toNat)).toNat = 48 + a.toNat := by simp; omega
  rw [h]
  omega
theorem dec_length (k : Nat) : ∀ v : Nat, v < 10 ^ (k + 1) → (Lib.decDigits v).length ≤ k + 1 := by
  induction k with
  | zero =>
    intro v h
    rw [dec_small v (by simpa using h)]
    simp
  | succ k ih =>
    intro v h
    by_cases h10 : v < 10
    · rw [dec_small v h10]; simp
    · rw [dec_more v h10]
      have := ih (v / 10) (by rw [Nat.pow_succ] at h; omega)
      simp
      omega
def markL (k : Nat) : List UInt8 := 109 :: Lib.decDigits k
theorem dec_len7 (k : Nat) (h : k ≤ 9999999) : (Lib.decDigits k).length ≤ 7 := dec_length 6 k (by omega)

set_option maxRecDepth 100000 in
set_option maxHeartbeats 1000000 in
theorem mark_text (a : Int) (w : World) (h1 : 1 ≤ a) (h2 : a ≤ 9999999) :
    Calls Try.prog 108 #[.int .i64 a] w fun e w' => e = .returned (.string (strOf (markL a.toNat))) ∧ Below w.heap.size w w' := by
  obtain ⟨k, rfl⟩ : ∃ k : Nat, a = (k : Int) := ⟨a.toNat, by omega⟩
  rw [Int.toNat_natCast]
  have hk7 := dec_len7 k (by omega)
  have h1' : ¬ (k : Int) ≤ 0 := by omega
  go_enter Try.func108, Try.ntmps108
  go_wp2
  go_loopg [0, 3] k (fun g i o wr => ∃ (j : Nat) (l : List UInt8), g = j ∧ i = .int .i64 j ∧ o = .string (strOf l) ∧ l.length ≤ 7 ∧ j ≤ 9999999 ∧ (0 < j → Lib.decDigits k = Lib.decDigits j ++ l) ∧ (j = 0 → l = Lib.decDigits k) ∧ Below w.heap.size w wr)
  case atStart => exact ⟨k, [], rfl, rfl, rfl, by simp, by omega, fun _ => by simp, fun h => by omega, Below.refl _ _⟩
  case round =>
    obtain ⟨j, l, hg, rfl, rfl, hl, hj, hp, hz, hb⟩ := hrel
    have HG := Lib.hid hg
    clear hg
    by_cases hj0 : 0 < j
    · have hjj : (0 : Int) < (j : Int) := by omega
      obtain ⟨q, hq⟩ : ∃ q, q = j / 10 := ⟨_, rfl⟩
      obtain ⟨m, hm⟩ : ∃ m, m = j % 10 := ⟨_, rfl⟩
      have hm9 : m < 10 := by omega
      have hn := dig_nums (m : Int) (by omega) (by omega)
      rw [Int.toNat_natCast] at hn
      have hnew : (0 < q → Lib.decDigits k = Lib.decDigits q ++ (UInt8.ofNat (48 + m) :: l)) ∧ (q = 0 → UInt8.ofNat (48 + m) :: l = Lib.decDigits k) := by
        have hp' := hp hj0
        by_cases h10 : j < 10
        · rw [dec_small j h10] at hp'
          have : m = j := by omega
          subst this
          exact ⟨fun h => by omega, fun _ => by rw [hp']; rfl⟩
        · rw [dec_more j h10, ← hq, ← hm] at hp'
          exact ⟨fun _ => by rw [hp']; simp, fun h => by omega⟩
      obtain ⟨x, hx⟩ : ∃ x, x = UInt8.ofNat (48 + m) := ⟨_, rfl⟩
      rw [← hx] at hn hnew
      have hl2 : (x :: l).length ≤ 7 := by
        rcases Nat.eq_zero_or_pos q with h | h
        · rw [hnew.2 h]; exact hk7
        · have := congrArg List.length (hnew.1 h)
          rw [List.length_append] at this
          omega
      have hadd := add_strs Try.prog [x] l (by simp; omega)
      have hcv : ∀ (W : World) (B : Nat), W.cell? ⟨B, 0, none⟩ = some (.int .u8 (48 + (m : Int))) → (convert 100 9 (.slice (some ⟨B, 0, none⟩) 1 1)).run Try.prog W = .ok (.string (strOf [x])) W := fun W B h => conv_one W B x (by rw [h, hn])
      have hd : ((j : Int)).tdiv 10 = (q : Int) := by rw [Int.tdiv_eq_ediv_of_nonneg (by omega)]; omega
      have hmm : ((j : Int)).tmod 10 = (m : Int) := by rw [Int.tmod_eq_emod_of_nonneg (by omega)]; omega
      have hwq : IntKind.i64.wrap (q : Int) = q := IntWalk.i64_in _ (by omega)
      have hwm : IntKind.i64.wrap (48 + (m : Int)) = 48 + m := IntWalk.i64_in _ (by omega)
      have hwu : IntKind.u8.wrap (48 + (m : Int)) = 48 + m := IntWalk.u8_in _ (by omega)
      have HN := Lib.hid hnew
      have HQ := Lib.hid hq
      clear hnew hx hn hp hz hq hm
      go_wp2_with fail
      go_roundg q
      case measure => have := HG.out; have := HQ.out; omega
      case rel => exact ⟨q, x :: l, rfl, by first | rfl | (rw [hd, hwq]) | (go_num), rfl, hl2, by have := HQ.out; omega, HN.out.1, HN.out.2, hb.alloc hb.size _⟩
    · have hjz : j = 0 := by omega
      subst hjz
      have hle := hz rfl
      subst hle
      clear hp hz
      have hadd : ∀ w, (Op.stringOp .add ⟨#[109]⟩ (strOf (Lib.decDigits k))).run Try.prog w = .ok (.string (strOf (markL k))) w := fun w => add_strs Try.prog [109] (Lib.decDigits k) (by simp; omega) w
      go_wp2_with fail
      go_ret
      exact ⟨rfl, hb⟩
end Go.Proofs.Ytndckncoipkhaaa.Cut
