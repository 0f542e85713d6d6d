/-
  Pieces without the zero bytes at their end, both sides.
-/
import Derived.Test.YtehmaacbmkfedaaDoorDec
import Derived.Test.YtehmaacbmkfedaaDoorShelf
import Derived.Test.YtehmaacbmkfedaaDoorNim
import Derived.Lib.CutLaws
namespace Go.Proofs.YtehmaacbmkfedaaDoor
open Go.RowKit

def cutZ (s : ByteArray) : ByteArray := strOf (Lib.trimRightB s.data.toList 0)
theorem trim_nil : Lib.trimRightB [] 0 = [] := rfl
theorem trim_zero (l : List UInt8) : Lib.trimRightB (l ++ [0]) 0 = Lib.trimRightB l 0 := by
  unfold Lib.trimRightB
  rw [List.reverse_append, List.reverse_singleton, List.singleton_append, List.dropWhile_cons_of_pos (by rfl)]
theorem trim_other (l : List UInt8) (c : UInt8) (h : c ≠ 0) : Lib.trimRightB (l ++ [c]) 0 = l ++ [c] := by
  unfold Lib.trimRightB
  rw [List.reverse_append, List.reverse_singleton, List.singleton_append, List.dropWhile_cons_of_neg (by simpa using h)]
  simp
theorem trim_len (l : List UInt8) : (Lib.trimRightB l 0).length ≤ l.length := by
  unfold Lib.trimRightB
  rw [List.length_reverse]
  have := (List.dropWhile_sublist (fun c : UInt8 => c == 0) (l := l.reverse)).length_le
  rwa [List.length_reverse] at this
theorem cutZ_len (s : ByteArray) : (cutZ s).size ≤ s.size := by
  unfold cutZ
  rw [strOf_size]
  have := trim_len s.data.toList
  rwa [Array.length_toList] at this
theorem bytes_last (t : ByteArray) (k : Nat) (h : t.size = k + 1) : t.data.toList = (t.extract 0 k).data.toList ++ [t[k]] := by
  rw [Lib.extract_from_zero]
  have hl : t.data.toList.length = k + 1 := by rw [Array.length_toList]; exact h
  conv => lhs; rw [← List.take_length (l := t.data.toList), hl]
  rw [List.take_succ_eq_append_getElem (by omega)]
  rfl
theorem strOf_list (t : ByteArray) : strOf t.data.toList = t := bytes_inj (by rw [strOf_toList])
theorem cutZ_empty (t : ByteArray) (h : t.size = 0) : cutZ t = t := by
  have : t.data.toList = [] := List.eq_nil_of_length_eq_zero (by rw [Array.length_toList]; exact h)
  unfold cutZ
  rw [this, trim_nil, ← this, strOf_list]
theorem cutZ_zero (t : ByteArray) (k : Nat) (h : t.size = k + 1) (hz : t[k] = 0) : cutZ (t.extract 0 k) = cutZ t := by
  unfold cutZ
  rw [bytes_last t k h, hz, trim_zero]
theorem cutZ_other (t : ByteArray) (k : Nat) (h : t.size = k + 1) (hz : t[k] ≠ 0) : cutZ t = t := by
  unfold cutZ
  conv => lhs; rw [bytes_last t k h, trim_other _ _ hz, ← bytes_last t k h]
  exact strOf_list t
theorem ret_str {a b : ByteArray} (h : a = b) : Ending.returned (.string a) = .returned (.string b) := by rw [h]

set_option maxHeartbeats 1000000 in
theorem s_cut (s : ByteArray) (w : World) (hs : s.size ≤ 1000) : Calls Tryd.prog 32 #[.string s] w fun e w' => e = .returned (.string (cutZ s)) ∧ w' = w := by
  go_enter Tryd.func32, Tryd.ntmps32
  go_wp2
  go_loop [0] (fun v => ∃ t : ByteArray, v = .string t ∧ t.size ≤ 1000 ∧ cutZ t = cutZ s) (fun v => match v with | .string t => t.size | _ => 0)
  case atStart => exact ⟨s, rfl, hs, rfl⟩
  case round =>
    obtain ⟨t, rfl, ht, hc⟩ := hrel
    have HC := Lib.hid hc
    clear hc hs
    rcases Nat.eq_zero_or_pos t.size with h0 | h0
    · have HE := Lib.hid (cutZ_empty t h0)
      have h0' : ¬ (0 : Int) < (t.size : Int) := by omega
      clear h0
      go_wp2
      go_ret
      exact ⟨ret_str (by rw [← HC.out, HE.out]), rfl⟩
    · obtain ⟨k, hk⟩ : ∃ k, t.size = k + 1 := ⟨t.size - 1, by omega⟩
      have hkl : k < t.size := by omega
      have hs1 : (t.size : Int) - 1 = (k : Int) := by omega
      have h0' : (0 : Int) < (t.size : Int) := by omega
      have hex : (t.extract 0 k).size = k := by simp [ByteArray.size_extract]; omega
      by_cases hz : t[k] = 0
      · have HZ := Lib.hid (cutZ_zero t k hk hz)
        have hq : ((t[k].toNat : Int) == 0) = true := by rw [hz]; rfl
        have HX := Lib.hid hex
        have HK := Lib.hid hk
        clear hz hex hk
        go_wp2
        go_round
        case rel => exact ⟨t.extract 0 k, rfl, by rw [HX.out]; omega, by rw [HZ.out, HC.out]⟩
        case measure =>
          have h1 := HX.out
          have h2 := HK.out
          show (t.extract 0 k).size < t.size
          omega
      · have HZ := Lib.hid (cutZ_other t k hk hz)
        have hq : ((t[k].toNat : Int) == 0) = false := by
          rw [beq_eq_false_iff_ne]
          intro e
          exact hz (UInt8.toNat_inj.1 (by have : t[k].toNat = 0 := by omega
                                          rw [this]; rfl))
        clear hz hex hk
        go_wp2
        go_ret
        exact ⟨ret_str (by rw [← HC.out, HZ.out]), rfl⟩

def cutP (s : ByteArray) : ByteArray × Bool := if s.size ≤ 12 then (cutZ s, true) else (⟨#[]⟩, false)
theorem cutP_yes {s : ByteArray} (h : s.size ≤ 12) : cutP s = (cutZ s, true) := if_pos h
theorem cutP_no {s : ByteArray} (h : ¬ s.size ≤ 12) : cutP s = (⟨#[]⟩, false) := if_neg h
def CutPPost (r : ByteArray × Bool) (w : World) (e : Ending) (w' : World) : Prop := e = .returned (.tuple #[.string r.1, .bool r.2]) ∧ w' = w
theorem s_pcut (s : ByteArray) (w : World) (hs : s.size ≤ maxLen) : Calls Tryd.prog 14 #[.string s] w (CutPPost (cutP s) w) := by
  unfold maxLen at hs
  by_cases h : s.size ≤ 12
  · rw [cutP_yes h]
    have hC := fun w => s_cut s w (by omega)
    have h' : ¬ (12 : Int) < (s.size : Int) := by omega
    generalize cutZ s = Z at hC
    clear h
    go_enter Tryd.func14, Tryd.ntmps14
    go_wp2_with (go_at_call 32; refine (hC _).mono ?_; rintro r w' ⟨rfl, rfl⟩)
    go_ret2
    exact ⟨rfl, rfl⟩
  · rw [cutP_no h]
    have h' : (12 : Int) < (s.size : Int) := by omega
    clear h
    go_enter Tryd.func14, Tryd.ntmps14
    go_wp2_with fail
    go_ret2
    exact ⟨rfl, rfl⟩
theorem i_pcut (s : ByteArray) (w : World) (hs : s.size ≤ maxLen) : Calls Tryd.prog 15 #[.string s] w (CutPPost (cutP s) w) := by
  unfold maxLen at hs
  by_cases h : s.size ≤ 12
  · rw [cutP_yes h]
    have hC : ∀ w : World, Calls Tryd.prog 33 #[.string s, .string ⟨#[0]⟩] w fun e w' => e = .returned (.string (cutZ s)) ∧ w' = w := fun w => Tryd.strings_TrimRight_one s 0 (by decide) w (by omega)
    have h' : ¬ (12 : Int) < (s.size : Int) := by omega
    generalize cutZ s = Z at hC
    clear h
    go_enter Tryd.func15, Tryd.ntmps15
    go_wp2_with (go_at_call 33; refine (hC _).mono ?_; rintro r w' ⟨rfl, rfl⟩)
    go_ret2
    exact ⟨rfl, rfl⟩
  · rw [cutP_no h]
    have h' : (12 : Int) < (s.size : Int) := by omega
    clear h
    go_enter Tryd.func15, Tryd.ntmps15
    go_wp2_with fail
    go_ret2
    exact ⟨rfl, rfl⟩
theorem w_pcut (s : ByteArray) (hs : s.size ≤ maxLen) (w : World) : Calls Tryd.prog 5 #[.string s] w fun e w' => e = .returned (.bool true) ∧ Below w.heap.size w w' := by
  have hS := fun w => s_pcut s w hs
  have hI := fun w => i_pcut s w hs
  obtain ⟨r, hr⟩ : ∃ r, r = cutP s := ⟨_, rfl⟩
  rw [← hr] at hS hI
  clear hr
  obtain ⟨t, o⟩ := r
  have ht : (t.toList == t.toList) = true := by simp
  unfold maxLen at hs
  by_cases h : (1048576 : Int) < (s.size : Int)
  · go_enter Tryd.func5, Tryd.ntmps5
    go_wp2_with fail
    go_ret
    exact ⟨rfl, Below.refl _ _⟩
  · cases o with
    | true =>
      go_enter Tryd.func5, Tryd.ntmps5
      go_wp2_with (first | (go_at_call 14; refine (hS _).mono ?_; rintro r w1 ⟨rfl, rfl⟩) | (go_at_call 15; refine (hI _).mono ?_; rintro r w2 ⟨rfl, rfl⟩))
      go_ret
      exact ⟨rfl, Below.refl _ _⟩
    | false =>
      go_enter Tryd.func5, Tryd.ntmps5
      go_wp2_with (first | (go_at_call 14; refine (hS _).mono ?_; rintro r w1 ⟨rfl, rfl⟩) | (go_at_call 15; refine (hI _).mono ?_; rintro r w2 ⟨rfl, rfl⟩))
      go_ret
      exact ⟨rfl, Below.refl _ _⟩
end Go.Proofs.YtehmaacbmkfedaaDoor
