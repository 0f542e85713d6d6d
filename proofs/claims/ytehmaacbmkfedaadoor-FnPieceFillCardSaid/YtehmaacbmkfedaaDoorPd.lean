/-
  Drawn pieces and numbers; cutting and filling undo each other.
-/
import Derived.Test.YtehmaacbmkfedaaDoorNtx
import Derived.Test.YtehmaacbmkfedaaDoorNzD
import Derived.Test.YtehmaacbmkfedaaDoorPc
namespace Go.Proofs.YtehmaacbmkfedaaDoor
open Go.RowKit
set_option linter.unusedVariables false

theorem snoc_or (l : List UInt8) : l = [] ∨ ∃ L b, l = L ++ [b] := by
  rcases List.eq_nil_or_concat l with h | ⟨L, b, h⟩
  · exact .inl h
  · exact .inr ⟨L, b, by rw [h, List.concat_eq_append]⟩
theorem trim_fill : ∀ (n : Nat) (l : List UInt8), l.length = n → Lib.trimRightB l 0 ++ zeroB (l.length - (Lib.trimRightB l 0).length) = l
  | 0, l, h => by
    obtain rfl : l = [] := List.eq_nil_of_length_eq_zero h
    rfl
  | n + 1, l, h => by
    rcases snoc_or l with rfl | ⟨L, c, rfl⟩
    · simp at h
    · have hL : L.length = n := by simpa using h
      by_cases hc : c = 0
      · subst hc
        have ih := trim_fill n L hL
        have hl := trim_len L
        rw [trim_zero, List.length_append, List.length_singleton, show L.length + 1 - (Lib.trimRightB L 0).length = L.length - (Lib.trimRightB L 0).length + 1 by omega]
        unfold zeroB at ih ⊢
        rw [List.replicate_succ', ← List.append_assoc, ih]
      · rw [trim_other _ _ hc, Nat.sub_self]
        simp [zeroB]
theorem trim_trim : ∀ (n : Nat) (l : List UInt8), l.length = n → Lib.trimRightB (Lib.trimRightB l 0) 0 = Lib.trimRightB l 0
  | 0, l, h => by
    obtain rfl : l = [] := List.eq_nil_of_length_eq_zero h
    rfl
  | n + 1, l, h => by
    rcases snoc_or l with rfl | ⟨L, c, rfl⟩
    · simp at h
    · have hL : L.length = n := by simpa using h
      by_cases hc : c = 0
      · subst hc
        rw [trim_zero]
        exact trim_trim n L hL
      · rw [trim_other _ _ hc, trim_other _ _ hc]
theorem trim_zeros (l : List UInt8) : ∀ k, Lib.trimRightB (l ++ zeroB k) 0 = Lib.trimRightB l 0
  | 0 => by simp [zeroB]
  | k + 1 => by
    have ih := trim_zeros l k
    unfold zeroB at ih ⊢
    rw [List.replicate_succ', ← List.append_assoc, trim_zero, ih]
theorem app_list (s t : ByteArray) : (s ++ t).data.toList = s.data.toList ++ t.data.toList := by simp
theorem size_list (s : ByteArray) : s.data.toList.length = s.size := by rw [Array.length_toList]; rfl
theorem cut_fill (s : ByteArray) : cutZ s ++ strOf (zeroB (s.size - (cutZ s).size)) = s := by
  apply bytes_inj
  have h := trim_fill _ s.data.toList rfl
  rw [app_list, strOf_toList]
  unfold cutZ
  rw [strOf_toList, strOf_size]
  rw [size_list] at h
  exact h
theorem cut_cut (s : ByteArray) : cutZ (cutZ s) = cutZ s := by
  unfold cutZ
  rw [strOf_toList, trim_trim _ s.data.toList rfl]
theorem cut_zeros (s : ByteArray) (k : Nat) : cutZ (s ++ strOf (zeroB k)) = cutZ s := by
  unfold cutZ
  rw [app_list, strOf_toList, trim_zeros]
theorem ext_front (s t : ByteArray) : (s ++ t).extract 0 s.size = s := by
  apply bytes_inj
  rw [Lib.extract_from_zero, app_list, ← size_list, List.take_left]
theorem size_app (s t : ByteArray) : (s ++ t).size = s.size + t.size := by simp

def StrPost (N : Nat) (w : World) (e : Ending) (w' : World) : Prop := ∃ s : ByteArray, e = .returned (.string s) ∧ s.size ≤ N ∧ Below w.heap.size w w'

set_option maxRecDepth 100000 in
set_option maxHeartbeats 2000000 in
theorem draw_pcut (A : Option Addr) (n cap : Nat) (w : World) (hn : n ≤ cap) (hA : BytesAt w A n) :
    Calls Tryd.prog 16 #[.slice A n cap] w (StrPost 100 w) := by
  have hO := open_rd A n cap w hn hA
  go_enter Tryd.func16, Tryd.ntmps16
  go_wp2_with (go_at_call 34; refine hO.mono ?_; rintro e w1 ⟨A1, m, c1, B, rfl, hr⟩; refine Hid.out ?_)
  refine Lib.hid ?_
  have hT := text_gr w w1 B A1 m c1 0 13 hr (by omega) (by omega)
  clear hO hr
  go_wp2_with (go_at_call 35; refine hT.mono ?_; rintro e w2 ⟨s, p, rfl, hs, hr2, hp, _⟩; refine Hid.out ?_)
  refine Lib.hid ?_
  have hK := pick_rd w w2 B A1 m c1 p 5 hr2 (by omega) (by omega) (by omega)
  clear hT hr2
  go_wp2_with (go_at_call 37; refine hK.mono ?_; rintro e w3 ⟨x, x0, x1, rfl, hr3, _⟩; refine Hid.out ?_)
  refine Lib.hid ?_
  have hK2 := pick_rd w w3 B A1 m c1 (p + 1) 3 hr3 (by omega) (by omega) (by omega)
  clear hK hr3
  go_wp2_with (go_at_call 37; refine hK2.mono ?_; rintro e w4 ⟨y, y0, y1, rfl, hr4, _⟩; refine Hid.out ?_)
  refine Lib.hid ?_
  have hb0 : 0 ≤ x * y := Int.mul_nonneg x0 y0
  have hb1 : x * y ≤ 4 * 2 := Int.mul_le_mul (by omega) (by omega) (by omega) (by omega)
  have hw := IntWalk.i64_in (x * y) (by omega)
  obtain ⟨k, hk⟩ : ∃ k : Nat, (k : Int) = x * y := ⟨(x * y).toNat, by omega⟩
  have hZ := fun w => s_zeros k (by omega) w
  have hkl : k ≤ 8 := by omega
  rw [hk] at hZ
  have hzl : (strOf (zeroB k)).size ≤ 8 := by rw [strOf_size, zeroB_len]; omega
  generalize strOf (zeroB k) = Z at hZ hzl
  have hA9 := fun w : World => run_string_add_sum (P := Tryd.prog) w s Z (by omega)
  have hsz := size_app s Z
  have HS := Lib.hid hsz
  clear hK2 hk hkl hsz
  go_wp2_with (go_at_call 36; refine (hZ _).mono ?_; rintro e w5 ⟨rfl, hb5⟩)
  go_ret
  exact ⟨s ++ Z, rfl, by rw [HS.out]; omega, hr4.bel.trans (hb5.mono hr4.bel.size)⟩

def StrInt (N : Nat) (w : World) (e : Ending) (w' : World) : Prop := ∃ (s : ByteArray) (n : Int), e = .returned (.tuple #[.string s, .int .i64 n]) ∧ s.size ≤ N ∧ Below w.heap.size w w'
set_option maxRecDepth 100000 in
set_option maxHeartbeats 2000000 in
theorem draw_pfill (A : Option Addr) (n cap : Nat) (w : World) (hn : n ≤ cap) (hA : BytesAt w A n) :
    Calls Tryd.prog 18 #[.slice A n cap] w (StrInt 100 w) := by
  have hO := open_rd A n cap w hn hA
  go_enter Tryd.func18, Tryd.ntmps18
  go_wp2_with (go_at_call 34; refine hO.mono ?_; rintro e w1 ⟨A1, m, c1, B, rfl, hr⟩; refine Hid.out ?_)
  refine Lib.hid ?_
  have hT := text_gr w w1 B A1 m c1 0 9 hr (by omega) (by omega)
  clear hO hr
  go_wp2_with (go_at_call 35; refine hT.mono ?_; rintro e w2 ⟨s, p, rfl, hs, hr2, hp, _⟩; refine Hid.out ?_)
  refine Lib.hid ?_
  have hK := pick_rd w w2 B A1 m c1 p 16 hr2 (by omega) (by omega) (by omega)
  clear hT hr2
  go_wp2_with (go_at_call 37; refine hK.mono ?_; rintro e w3 ⟨x, x0, x1, rfl, hr3, _⟩)
  go_ret2
  exact ⟨s, x - 1, rfl, by omega, hr3.bel⟩
end Go.Proofs.YtehmaacbmkfedaaDoor
