/-
  FnNodePieces (P78), its walk: pieces hold just the size.
-/
import Derived.Test.YtehmaacbmkfedaaNdw
namespace Go.Proofs.Ytehmaacbmkfedaa
open Go.RowKit
set_option linter.unusedVariables false

theorem pc_file (s : Int) (h : 0 ≤ s ∧ s ≤ 192) : 0 ≤ (s + 11) / 12 ∧ (s + 11) / 12 ≤ 16 ∧ s ≤ (s + 11) / 12 * 12 ∧ (1 ≤ s → ((s + 11) / 12 - 1) * 12 < s) ∧ (s < 1 → (s + 11) / 12 = 0) := by omega
theorem pc_folder (s : Int) (h : 0 ≤ s ∧ s ≤ 2048) : 0 ≤ (s + 127) / 128 ∧ (s + 127) / 128 ≤ 16 ∧ s ≤ (s + 127) / 128 * 128 ∧ (1 ≤ s → ((s + 127) / 128 - 1) * 128 < s) ∧ (s < 1 → (s + 127) / 128 = 0) := by omega

set_option maxHeartbeats 1000000 in
theorem walk_pieces (A : Option Addr) (n cap : Nat) (w : World) (hn : n ≤ cap) (hA : BytesAt w A n) :
    Calls Try.prog 6 #[.slice A n cap] w fun e w' => e = .returned (.bool true) ∧ Below w.heap.size w w' := by
  by_cases h1 : 1048576 < n
  · have h1' : (1048576 : Int) < (n : Int) := by omega
    go_enter Try.func6, Try.ntmps6
    go_wp2
    go_ret
    exact ⟨rfl, Below.refl _ _⟩
  · have h1' : ¬ (1048576 : Int) < (n : Int) := by omega
    have hD := draw_pieces A n cap w hn hA
    go_enter Try.func6, Try.ntmps6
    go_wp2_with (go_at_call 14; refine hD.mono ?_; rintro e w1 ⟨k, s, rfl, hb⟩; refine Hid.out ?_)
    refine Lib.hid ?_
    have hS := fun w => s_pieces k s w
    have hI := fun w => i_pieces k s w
    clear hD hA
    by_cases hp : pieces k s < 0
    · generalize pieces k s = P at hS hI hp
      have hq : decide (0 ≤ P) = false := decide_eq_false (by omega)
      go_wp2_with (first | (go_at_call 7; refine (hS _).mono ?_; rintro r w1 ⟨rfl, rfl⟩) | (go_at_call 8; refine (hI _).mono ?_; rintro r w2 ⟨rfl, hb2⟩))
      go_ret
      exact ⟨rfl, bel_then hb hb2⟩
    · by_cases hk1 : k = 1
      · subst hk1
        by_cases hs : 0 ≤ s ∧ s ≤ 192
        · rw [pieces_file hs] at hS hI hp
          have hf := pc_file s hs
          obtain ⟨hs0, hs1⟩ := hs
          generalize (s + 11) / 12 = P at hS hI hf hp
          obtain ⟨f0, f1, f2, f3, f4⟩ := hf
          have hp' : ¬ P < 0 := hp
          rcases (show s < 1 ∨ s = 1 ∨ 1 < s by omega) with h | h | h
          · obtain rfl : s = 0 := by omega
            obtain rfl : P = 0 := f4 h
            clear f3 f4 h hp
            go_wp2_with (first | (go_at_call 7; refine (hS _).mono ?_; rintro r w1 ⟨rfl, rfl⟩) | (go_at_call 8; refine (hI _).mono ?_; rintro r w2 ⟨rfl, hb2⟩))
            go_ret
            exact ⟨rfl, bel_then hb hb2⟩
          · subst h
            obtain rfl : P = 1 := by have := f3 (by decide); omega
            clear f3 f4 hp
            go_wp2_with (first | (go_at_call 7; refine (hS _).mono ?_; rintro r w1 ⟨rfl, rfl⟩) | (go_at_call 8; refine (hI _).mono ?_; rintro r w2 ⟨rfl, hb2⟩))
            go_ret
            exact ⟨rfl, bel_then hb hb2⟩
          · have f5 := f3 (by omega)
            have f6 : 0 ≤ P - 1 := by omega
            have f7 : 1 ≤ P := by omega
            clear f3 f4 hp
            go_wp2_with (first | (go_at_call 7; refine (hS _).mono ?_; rintro r w1 ⟨rfl, rfl⟩) | (go_at_call 8; refine (hI _).mono ?_; rintro r w2 ⟨rfl, hb2⟩))
            go_ret
            exact ⟨rfl, bel_then hb hb2⟩
        · rw [pieces_file_no hs] at hp
          exact absurd (by decide) hp
      · by_cases hk2 : k = 2
        · subst hk2
          by_cases hs : 0 ≤ s ∧ s ≤ 2048
          · rw [pieces_folder hs] at hS hI hp
            have hf := pc_folder s hs
            obtain ⟨hs0, hs1⟩ := hs
            generalize (s + 127) / 128 = P at hS hI hf hp
            obtain ⟨f0, f1, f2, f3, f4⟩ := hf
            have hp' : ¬ P < 0 := hp
            rcases (show s < 1 ∨ s = 1 ∨ 1 < s by omega) with h | h | h
            · obtain rfl : s = 0 := by omega
              obtain rfl : P = 0 := f4 h
              clear f3 f4 h hp
              go_wp2_with (first | (go_at_call 7; refine (hS _).mono ?_; rintro r w1 ⟨rfl, rfl⟩) | (go_at_call 8; refine (hI _).mono ?_; rintro r w2 ⟨rfl, hb2⟩))
              go_ret
              exact ⟨rfl, bel_then hb hb2⟩
            · subst h
              obtain rfl : P = 1 := by have := f3 (by decide); omega
              clear f3 f4 hp
              go_wp2_with (first | (go_at_call 7; refine (hS _).mono ?_; rintro r w1 ⟨rfl, rfl⟩) | (go_at_call 8; refine (hI _).mono ?_; rintro r w2 ⟨rfl, hb2⟩))
              go_ret
              exact ⟨rfl, bel_then hb hb2⟩
            · have f5 := f3 (by omega)
              have f6 : 0 ≤ P - 1 := by omega
              have f7 : 1 ≤ P := by omega
              clear f3 f4 hp
              go_wp2_with (first | (go_at_call 7; refine (hS _).mono ?_; rintro r w1 ⟨rfl, rfl⟩) | (go_at_call 8; refine (hI _).mono ?_; rintro r w2 ⟨rfl, hb2⟩))
              go_ret
              exact ⟨rfl, bel_then hb hb2⟩
          · rw [pieces_folder_no hs] at hp
            exact absurd (by decide) hp
        · rw [pieces_none hk1 hk2] at hp
          exact absurd (by decide) hp
end Go.Proofs.Ytehmaacbmkfedaa
