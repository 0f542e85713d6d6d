/-
  l6Dec answers the decimal numeral of a number that is not negative.
-/
import Derived.Test.YtehmaacbmkfedaaDoorRows
import Derived.WalkKit
import Derived.WalkSpells
import Derived.Lib.Hide
import Derived.Lib.ItoaNum
import Derived.Laws.BytesArg
import Derived.RegionTactic
import Derived.IntWalk
import Derived.Deep.RegionWith
import Derived.Deep.RegionHeld3
import Derived.WalkSmall
namespace Go.Proofs.YtehmaacbmkfedaaDoor
open Go.RowKit

def strOf (l : List UInt8) : ByteArray := ⟨l.toArray⟩
theorem strOf_toList (l : List UInt8) : (strOf l).data.toList = l := by simp [strOf]
theorem strOf_size (l : List UInt8) : (strOf l).size = l.length := by simp [strOf, ByteArray.size]

theorem bytes_inj {a b : ByteArray} (h : a.data.toList = b.data.toList) : a = b := by
  cases a; cases b
  simp at h
  rw [h]
theorem strOf_app (l m : List UInt8) : strOf l ++ strOf m = strOf (l ++ m) := by
  apply bytes_inj
  rw [strOf_toList]
  simp [strOf]
theorem add_strs (P : Program) (l m : List UInt8) (h : l.length + m.length ≤ 9223372036854775807) (w : World) : (Op.stringOp .add (strOf l) (strOf m)).run P w = .ok (.string (strOf (l ++ m))) w := by
  rw [run_string_add_sum w _ _ (by rw [strOf_size, strOf_size]; exact h), strOf_app]

set_option maxRecDepth 100000 in
theorem conv_one (w : World) (B : Nat) (x : UInt8) (h : w.cell? ⟨B, 0, none⟩ = some (.int .u8 (x.toNat : Int))) :
    (convert 42 9 (.slice (some ⟨B, 0, none⟩) 1 1)).run Tryd.prog w = .ok (.string (strOf [x])) w := by
  have hr := run_convert_bytes_arg (P := Tryd.prog) w 42 5 Tryd.underlying42 Tryd.underlying5 B 0 1 1 [(x.toNat : Int)] rfl (fun i hi => by
    obtain rfl : i = 0 := by omega
    rw [h]; rfl) 9 Tryd.underlying9
  rw [hr]
  congr 2
  simp [strOfNums, strOf]

theorem dec_small (u : Nat) (h : u < 10) : Lib.decDigits u = [UInt8.ofNat (48 + u)] := by rw [Lib.decDigits, dif_pos h]
theorem dec_more (u : Nat) (h : ¬ u < 10) : Lib.decDigits u = Lib.decDigits (u / 10) ++ [UInt8.ofNat (48 + u % 10)] := by rw [Lib.decDigits, dif_neg h]

theorem dec_len (u : Nat) : (Lib.decDigits u).length ≤ u + 1 := by
  induction u using Nat.strongRecOn with
  | _ u ih =>
    by_cases h : u < 10
    · rw [dec_small u h]; simp
    · rw [dec_more u h, List.length_append]
      have := ih (u / 10) (by omega)
      simp only [List.length_cons, List.length_nil]
      omega

theorem bcell {W w1 : World} (hb : Below W.heap.size W w1) : (∀ b o, b < W.heap.size → w1.cell? ⟨b, o, none⟩ = W.cell? ⟨b, o, none⟩) ∧ (∀ b o, b < W.heap.size → w1.frozen? ⟨b, o, none⟩ = W.frozen? ⟨b, o, none⟩) :=
  ⟨fun b o h => hb.cell (p := ⟨b, o, none⟩) h, fun b o h => hb.frozen (p := ⟨b, o, none⟩) h⟩

theorem dig_nums (a : Int) (h0 : 0 ≤ a) (h9 : a < 10) : (48 + a : Int) = ((UInt8.ofNat (48 + a.toNat)).toNat : Int) := by
  have h : (UInt8.ofNat (48 + a.toNat)).toNat = 48 + a.toNat := by simp; omega
  rw [h]
  omega

theorem not_least (a : Int) (h0 : 0 ≤ a) : decide (a < -9223372036854775807) = false := decide_eq_false (by omega)

set_option maxRecDepth 100000 in
set_option maxHeartbeats 1000000 in
theorem dec_lt (a : Int) (w : World) (h0 : 0 ≤ a) (h10 : a < 10) :
    Calls Tryd.prog 22 #[.int .i64 a] w fun e w' => e = .returned (.string (strOf (Lib.decDigits a.toNat))) ∧ Below w.heap.size w w' := by
  have hd := dec_small a.toNat (by omega)
  have hn := dig_nums a h0 h10
  obtain ⟨x, hx⟩ : ∃ x, x = UInt8.ofNat (48 + a.toNat) := ⟨_, rfl⟩
  rw [← hx] at hn hd
  have hcv := conv_one (w.alloc (.cells #[.int .u8 (48 + a)] 5)) w.heap.size x (by rw [← hn]; simp)
  have HD := Lib.hid hd
  clear hn hx hd
  have h1 := not_least a h0
  go_enter Tryd.func22, Tryd.ntmps22
  go_wp2_with fail
  go_ret
  exact ⟨by rw [HD.out]; rfl, (Below.refl _ _).alloc (Nat.le_refl _) _⟩

set_option maxRecDepth 100000 in
set_option maxHeartbeats 400000 in
theorem dec_any (k : Nat) : ∀ (a : Int) (w : World), 0 ≤ a → a ≤ k → a ≤ 1099511627776 →
    Calls Tryd.prog 22 #[.int .i64 a] w fun e w' => e = .returned (.string (strOf (Lib.decDigits a.toNat))) ∧ Below w.heap.size w w' := by
  induction k with
  | zero =>
    intro a w h0 hk hm
    exact dec_lt a w h0 (by omega)
  | succ k ih =>
    intro a w h0 hk hm
    by_cases h10 : a < 10
    · exact dec_lt a w h0 h10
    · have hmore := dec_more a.toNat (by omega)
      obtain ⟨q, hq⟩ : ∃ q, q = a / 10 := ⟨_, rfl⟩
      obtain ⟨m, hm2⟩ : ∃ m, m = a % 10 := ⟨_, rfl⟩
      have hq0 : 0 ≤ q := by omega
      have hm0 : 0 ≤ m := by omega
      have hm9 : m < 10 := by omega
      have hqn : a.toNat / 10 = q.toNat := by omega
      have hrn : a.toNat % 10 = m.toNat := by omega
      rw [hqn, hrn] at hmore
      obtain ⟨x, hx⟩ : ∃ x, x = UInt8.ofNat (48 + m.toNat) := ⟨_, rfl⟩
      have hn := dig_nums m hm0 hm9
      rw [← hx] at hn hmore
      have hI := fun w => ih q w hq0 (by omega) (by omega)
      have hl := dec_len q.toNat
      have hq1 : q ≤ 1099511627776 := by omega
      obtain ⟨l, hl2⟩ : ∃ l, l = Lib.decDigits q.toNat := ⟨_, rfl⟩
      rw [← hl2] at hI hl hmore
      have hadd := add_strs Tryd.prog l [x] (by simp; omega)
      have HD := Lib.hid hmore
      have hcv : ∀ (W : World) (B : Nat), W.cell? ⟨B, 0, none⟩ = some (.int .u8 (48 + m)) → (convert 42 9 (.slice (some ⟨B, 0, none⟩) 1 1)).run Tryd.prog W = .ok (.string (strOf [x])) W := fun W B h => conv_one W B x (by rw [h, hn])
      have hd : a.tdiv 10 = q := by rw [hq]; exact Int.tdiv_eq_ediv_of_nonneg h0
      have hmm : a.tmod 10 = m := by rw [hm2]; exact Int.tmod_eq_emod_of_nonneg h0
      have hwq : IntKind.i64.wrap q = q := IntWalk.i64_in _ (by omega)
      have hwm : IntKind.i64.wrap (48 + m) = 48 + m := IntWalk.i64_in _ (by omega)
      have hwu : IntKind.u8.wrap (48 + m) = 48 + m := IntWalk.u8_in _ (by omega)
      have h1 := not_least a h0
      clear hmore hqn hrn hx hn hq hm2 hl hl2 hk hm ih
      go_enter Tryd.func22, Tryd.ntmps22
      go_wp2_with fail
      clear h1
      go_region_with (go_at_call 22; refine (hI _).mono ?_; rintro e w1 ⟨rfl, hb1⟩; obtain ⟨hc1, hf1⟩ := bcell hb1)
      all_goals clear hcv hadd hwq hwm hwu hd hmm hI
      all_goals go_wp2_with fail
      all_goals go_ret
      all_goals refine ⟨by rw [HD.out]; rfl, ?_⟩
      all_goals first
        | exact ((Below.refl _ w).drew.trans hb1).alloc hb1.size _
        | exact ((Below.refl _ w).drew.alloc (Nat.le_refl _) _).trans (hb1.mono (by simp))
        | exact (((Below.refl _ w).alloc (Nat.le_refl _) _).drew).trans (hb1.mono (by simp))
        | trace_state

end Go.Proofs.YtehmaacbmkfedaaDoor
