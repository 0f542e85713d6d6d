/-
  FnPieceCut (P82) and FnPieceFill (P83), their walks.
-/
import Derived.Test.YtehmaacbmkfedaaDoorPd
namespace Go.Proofs.YtehmaacbmkfedaaDoor
open Go.RowKit
set_option linter.unusedVariables false

set_option maxRecDepth 100000 in
set_option maxHeartbeats 2000000 in
theorem walk_pcut (A : Option Addr) (n cap : Nat) (w : World) (hn : n ≤ cap) (hA : BytesAt w A n) :
    Calls Tryd.prog 6 #[.slice A n cap] w fun e w' => e = .returned (.bool true) ∧ Below w.heap.size w w' := by
  by_cases h1 : 1048576 < n
  · have h1' : (1048576 : Int) < (n : Int) := by omega
    go_enter Tryd.func6, Tryd.ntmps6
    go_wp2
    go_ret
    exact ⟨rfl, Below.refl _ _⟩
  · have h1' : ¬ (1048576 : Int) < (n : Int) := by omega
    have hD := draw_pcut A n cap w hn hA
    go_enter Tryd.func6, Tryd.ntmps6
    go_wp2_with (go_at_call 16; refine hD.mono ?_; rintro e w1 ⟨s, rfl, hs, hb⟩; refine Hid.out ?_)
    refine Lib.hid ?_
    have hS := fun w => s_pcut s w (by unfold maxLen; omega)
    have hI := fun w => i_pcut s w (by unfold maxLen; omega)
    have hss : (s.toList == s.toList) = true := by simp
    clear hD hA
    by_cases h12 : s.size ≤ 12
    · rw [cutP_yes h12] at hS hI
      have hcl := cutZ_len s
      have hJ := fun w => i_pcut (cutZ s) w (by unfold maxLen; omega)
      rw [cutP_yes (by omega), cut_cut] at hJ
      have hF := fun w => i_fill (cutZ s) (s.size : Int) w (by unfold maxLen; omega)
      rw [fillB_yes (by omega) hcl, cut_fill] at hF
      obtain ⟨Z, hZ⟩ : ∃ Z, Z = cutZ s := ⟨_, rfl⟩
      rw [← hZ] at hS hI hJ hF
      have hzz : (Z.toList == Z.toList) = true := by simp
      clear hZ hcl h12
      go_wp2_with (first | (go_at_call 14; refine (hS _).mono ?_; rintro r w2 ⟨rfl, rfl⟩) | (go_at_call 15; first | ((with_reducible refine (hI _).mono ?_); rintro r w3 ⟨rfl, rfl⟩) | ((with_reducible refine (hJ _).mono ?_); rintro r w4 ⟨rfl, rfl⟩)) | (go_at_call 17; refine (hF _).mono ?_; rintro r w5 ⟨rfl, hb5⟩))
      go_ret
      exact ⟨rfl, bel_then hb hb5⟩
    · rw [cutP_no h12] at hS hI
      clear h12
      go_wp2_with (first | (go_at_call 14; refine (hS _).mono ?_; rintro r w2 ⟨rfl, rfl⟩) | (go_at_call 15; refine (hI _).mono ?_; rintro r w3 ⟨rfl, rfl⟩))
      go_ret
      exact ⟨rfl, hb⟩

set_option maxRecDepth 100000 in
set_option maxHeartbeats 2000000 in
theorem walk_pfill (A : Option Addr) (n cap : Nat) (w : World) (hn : n ≤ cap) (hA : BytesAt w A n) :
    Calls Tryd.prog 7 #[.slice A n cap] w fun e w' => e = .returned (.bool true) ∧ Below w.heap.size w w' := by
  by_cases h1 : 1048576 < n
  · have h1' : (1048576 : Int) < (n : Int) := by omega
    go_enter Tryd.func7, Tryd.ntmps7
    go_wp2
    go_ret
    exact ⟨rfl, Below.refl _ _⟩
  · have h1' : ¬ (1048576 : Int) < (n : Int) := by omega
    have hD := draw_pfill A n cap w hn hA
    go_enter Tryd.func7, Tryd.ntmps7
    go_wp2_with (go_at_call 18; refine hD.mono ?_; rintro e w1 ⟨s, m, rfl, hs, hb⟩; refine Hid.out ?_)
    refine Lib.hid ?_
    have hS := fun w => s_fill s m w (by unfold maxLen; omega)
    have hI := fun w => i_fill s m w (by unfold maxLen; omega)
    have hss : (s.toList == s.toList) = true := by simp
    clear hD hA
    by_cases hok : (0 ≤ m ∧ m ≤ 12) ∧ (s.size : Int) ≤ m
    · obtain ⟨⟨m0, m12⟩, hsm⟩ := hok
      obtain ⟨k, rfl⟩ : ∃ k : Nat, m = (k : Int) := ⟨m.toNat, by omega⟩
      have hk : k ≤ 12 := by omega
      have hsk : s.size ≤ k := by omega
      rw [fillB_yes hk hsk] at hS hI
      have hcs := fun w => i_pcut s w (by unfold maxLen; omega)
      rw [cutP_yes (by omega)] at hcs
      have hxs : (s ++ strOf (zeroB (k - s.size))).size = k := by rw [size_app, strOf_size, zeroB_len]; omega
      have hcx := fun w => i_pcut (s ++ strOf (zeroB (k - s.size))) w (by rw [hxs]; unfold maxLen; omega)
      rw [cutP_yes (by omega), cut_zeros] at hcx
      have hex := ext_front s (strOf (zeroB (k - s.size)))
      obtain ⟨X, hX⟩ : ∃ X, X = s ++ strOf (zeroB (k - s.size)) := ⟨_, rfl⟩
      rw [← hX] at hS hI hxs hcx hex
      have hxx : (X.toList == X.toList) = true := by simp
      have hle : s.size ≤ X.size := by omega
      have hq : ((X.size : Int) == (k : Int)) = true := by rw [hxs]; simp
      have hx12 : X.size ≤ 12 := by omega
      generalize cutZ s = Z at hcs hcx
      have hzz : (Z.toList == Z.toList) = true := by simp
      clear hX hxs m0 m12 hsm hk hsk
      go_wp2_with (first | (go_at_call 19; refine (hS _).mono ?_; rintro r w2 ⟨rfl, hb2⟩) | (go_at_call 17; refine (hI _).mono ?_; rintro r w3 ⟨rfl, hb3⟩) | (go_at_call 15; first | ((with_reducible refine (hcx _).mono ?_); rintro r w4 ⟨rfl, rfl⟩) | ((with_reducible refine (hcs _).mono ?_); rintro r w5 ⟨rfl, rfl⟩)))
      go_ret
      exact ⟨rfl, bel_then hb (bel_then hb3 hb2)⟩
    · have hv : fillB s m = (⟨#[]⟩, false) := if_neg hok
      rw [hv] at hS hI
      clear hv hok
      go_wp2_with (first | (go_at_call 19; refine (hS _).mono ?_; rintro r w2 ⟨rfl, hb2⟩) | (go_at_call 17; refine (hI _).mono ?_; rintro r w3 ⟨rfl, hb3⟩))
      go_ret
      exact ⟨rfl, bel_then hb (bel_then hb3 hb2)⟩
end Go.Proofs.YtehmaacbmkfedaaDoor
