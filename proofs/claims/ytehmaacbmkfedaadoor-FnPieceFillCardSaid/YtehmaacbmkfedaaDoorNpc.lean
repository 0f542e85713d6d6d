/-
  NodePieces, both sides: how many pieces a node has.
-/
import Derived.Test.YtehmaacbmkfedaaDoorNpt
import Derived.Test.YtehmaacbmkfedaaDoorNdp
namespace Go.Proofs.YtehmaacbmkfedaaDoor
open Go.RowKit

def eachOf (k : Int) : Int := if k = 1 then 12 else if k = 2 then 128 else 0
theorem s_each (k : Int) (w : World) : Calls Tryd.prog 68 #[.int .i64 k] w fun e w' => e = .returned (.int .i64 (eachOf k)) ∧ w = w' := by
  unfold eachOf
  by_cases h1 : k = 1
  · subst h1
    go_enter Tryd.func68, Tryd.ntmps68
    go_wp2
    go_ret
    exact ⟨rfl, rfl⟩
  · rw [if_neg h1]
    have h1' : (k == 1) = false := by simpa using h1
    by_cases h2 : k = 2
    · subst h2
      clear h1 h1'
      go_enter Tryd.func68, Tryd.ntmps68
      go_wp2
      go_ret
      exact ⟨rfl, rfl⟩
    · rw [if_neg h2]
      have h2' : (k == 2) = false := by simpa using h2
      go_enter Tryd.func68, Tryd.ntmps68
      go_wp2
      go_ret
      exact ⟨rfl, rfl⟩
theorem s_quot (size each : Int) (w : World) (h0 : 0 ≤ size) (h1 : size ≤ 2048) (h2 : 1 ≤ each) (h3 : each ≤ 128) :
    Calls Tryd.prog 69 #[.int .i64 size, .int .i64 each] w fun e w' => e = .returned (.int .i64 ((size + each - 1) / each)) ∧ w = w' := by
  have hz : (each == 0) = false := by rw [beq_eq_false_iff_ne]; omega
  go_enter Tryd.func69, Tryd.ntmps69
  go_wp2
  go_ret
  exact ⟨rfl, rfl⟩

theorem s_pieces (k size : Int) (w : World) : Calls Tryd.prog 41 #[.int .i64 k, .int .i64 size] w fun e w' => e = .returned (.int .i64 (pieces k size)) ∧ w = w' := by
  have hE := fun w => s_each k w
  by_cases h1 : k = 1
  · subst h1
    rw [show eachOf 1 = 12 from rfl] at hE
    by_cases hs : 0 ≤ size ∧ size ≤ 192
    · rw [pieces_file hs]
      have hI := fun w => s_in size 0 192 w
      rw [inB_yes hs] at hI
      have hQ := fun w => s_quot size 12 w hs.1 (by omega) (by decide) (by decide)
      rw [show size + 12 - 1 = size + 11 by omega] at hQ
      clear hs
      go_enter Tryd.func41, Tryd.ntmps41
      go_wp2_with (first | (go_at_call 68; refine (hE _).mono ?_; rintro r w' ⟨rfl, rfl⟩) | (go_at_call 40; refine (hI _).mono ?_; rintro r w' ⟨rfl, rfl⟩) | (go_at_call 69; refine (hQ _).mono ?_; rintro r w' ⟨rfl, rfl⟩))
      go_ret
      exact ⟨rfl, rfl⟩
    · rw [pieces_file_no hs]
      have hI := fun w => s_in size 0 192 w
      rw [inB_no hs] at hI
      clear hs
      go_enter Tryd.func41, Tryd.ntmps41
      go_wp2_with (first | (go_at_call 68; refine (hE _).mono ?_; rintro r w' ⟨rfl, rfl⟩) | (go_at_call 40; refine (hI _).mono ?_; rintro r w' ⟨rfl, rfl⟩))
      go_ret
      exact ⟨rfl, rfl⟩
  · by_cases h2 : k = 2
    · subst h2
      clear h1
      rw [show eachOf 2 = 128 from rfl] at hE
      by_cases hs : 0 ≤ size ∧ size ≤ 2048
      · rw [pieces_folder hs]
        have hI := fun w => s_in size 0 2048 w
        rw [inB_yes hs] at hI
        have hQ := fun w => s_quot size 128 w hs.1 (by omega) (by decide) (by decide)
        rw [show size + 128 - 1 = size + 127 by omega] at hQ
        clear hs
        go_enter Tryd.func41, Tryd.ntmps41
        go_wp2_with (first | (go_at_call 68; refine (hE _).mono ?_; rintro r w' ⟨rfl, rfl⟩) | (go_at_call 40; refine (hI _).mono ?_; rintro r w' ⟨rfl, rfl⟩) | (go_at_call 69; refine (hQ _).mono ?_; rintro r w' ⟨rfl, rfl⟩))
        go_ret
        exact ⟨rfl, rfl⟩
      · rw [pieces_folder_no hs]
        have hI := fun w => s_in size 0 2048 w
        rw [inB_no hs] at hI
        clear hs
        go_enter Tryd.func41, Tryd.ntmps41
        go_wp2_with (first | (go_at_call 68; refine (hE _).mono ?_; rintro r w' ⟨rfl, rfl⟩) | (go_at_call 40; refine (hI _).mono ?_; rintro r w' ⟨rfl, rfl⟩))
        go_ret
        exact ⟨rfl, rfl⟩
    · rw [pieces_none h1 h2]
      rw [show eachOf k = 0 by unfold eachOf; rw [if_neg h1, if_neg h2]] at hE
      clear h1 h2
      go_enter Tryd.func41, Tryd.ntmps41
      go_wp2_with (first | (go_at_call 68; refine (hE _).mono ?_; rintro r w' ⟨rfl, rfl⟩))
      go_ret
      exact ⟨rfl, rfl⟩

/-- The rule of a kind: the greatest number of names, and of bytes of a piece. -/
theorem i_rule1 (w : World) : Calls Tryd.prog 46 #[.int .i64 1] w fun e w' => e = .returned (.tuple #[.agg #[.int .i64 9, .int .i64 12], .bool true]) ∧ Below w.heap.size w w' := by
  go_enter Tryd.func46, Tryd.ntmps46
  go_wp2
  refine bodyPost_ret (v := .tuple #[.agg #[.int .i64 9, .int .i64 12], .bool true]) ?_ rfl ⟨rfl, ?_⟩
  · rw [results_cell_tmp rfl]
    go_simp
  · repeat' (first | exact Below.refl _ _ | refine bel_new ?_ _ | (refine Below.setCell ?_ (Nat.le_refl _) _))
theorem i_rule2 (w : World) : Calls Tryd.prog 46 #[.int .i64 2] w fun e w' => e = .returned (.tuple #[.agg #[.int .i64 1, .int .i64 128], .bool true]) ∧ Below w.heap.size w w' := by
  go_enter Tryd.func46, Tryd.ntmps46
  go_wp2
  refine bodyPost_ret (v := .tuple #[.agg #[.int .i64 1, .int .i64 128], .bool true]) ?_ rfl ⟨rfl, ?_⟩
  · rw [results_cell_tmp rfl]
    go_simp
  · repeat' (first | exact Below.refl _ _ | refine bel_new ?_ _ | (refine Below.setCell ?_ (Nat.le_refl _) _))
theorem i_rule0 (k : Int) (h1 : k ≠ 1) (h2 : k ≠ 2) (w : World) : Calls Tryd.prog 46 #[.int .i64 k] w fun e w' => e = .returned (.tuple #[.agg #[.int .i64 0, .int .i64 0], .bool false]) ∧ Below w.heap.size w w' := by
  have h1' : (k == 1) = false := by simpa using h1
  have h2' : (k == 2) = false := by simpa using h2
  go_enter Tryd.func46, Tryd.ntmps46
  go_wp2
  refine bodyPost_ret (v := .tuple #[.agg #[.int .i64 0, .int .i64 0], .bool false]) ?_ rfl ⟨rfl, ?_⟩
  · rw [results_cell_tmp rfl]
    go_simp
  · repeat' (first | exact Below.refl _ _ | refine bel_new ?_ _ | (refine Below.setCell ?_ (Nat.le_refl _) _))

theorem i_pieces (k size : Int) (w : World) : Calls Tryd.prog 48 #[.int .i64 k, .int .i64 size] w fun e w' => e = .returned (.int .i64 (pieces k size)) ∧ Below w.heap.size w w' := by
  by_cases h1 : k = 1
  · subst h1
    have hE := fun w => i_rule1 w
    by_cases hs : 0 ≤ size ∧ size ≤ 192
    · rw [pieces_file hs]
      have hI := fun w => i_in size 0 192 w
      rw [inB_yes hs] at hI
      obtain ⟨hs0, hs1⟩ := hs
      have HQ := Lib.hid (show size + 12 - 1 = size + 11 by omega)
      go_enter Tryd.func48, Tryd.ntmps48
      go_wp2_with (first | (go_at_call 46; refine (hE _).mono ?_; rintro r w' ⟨rfl, hb⟩) | (go_at_call 38; refine (hI _).mono ?_; rintro r w' ⟨rfl, rfl⟩))
      go_ret
      exact ⟨ret_int (by first | rfl | (rw [HQ.out])), bel_new hb _⟩
    · rw [pieces_file_no hs]
      have hI := fun w => i_in size 0 192 w
      rw [inB_no hs] at hI
      clear hs
      go_enter Tryd.func48, Tryd.ntmps48
      go_wp2_with (first | (go_at_call 46; refine (hE _).mono ?_; rintro r w' ⟨rfl, hb⟩) | (go_at_call 38; refine (hI _).mono ?_; rintro r w' ⟨rfl, rfl⟩))
      go_ret
      exact ⟨rfl, bel_new hb _⟩
  · by_cases h2 : k = 2
    · subst h2
      clear h1
      have hE := fun w => i_rule2 w
      by_cases hs : 0 ≤ size ∧ size ≤ 2048
      · rw [pieces_folder hs]
        have hI := fun w => i_in size 0 2048 w
        rw [inB_yes hs] at hI
        obtain ⟨hs0, hs1⟩ := hs
        have HQ := Lib.hid (show size + 128 - 1 = size + 127 by omega)
        go_enter Tryd.func48, Tryd.ntmps48
        go_wp2_with (first | (go_at_call 46; refine (hE _).mono ?_; rintro r w' ⟨rfl, hb⟩) | (go_at_call 38; refine (hI _).mono ?_; rintro r w' ⟨rfl, rfl⟩))
        go_ret
        exact ⟨ret_int (by first | rfl | (rw [HQ.out])), bel_new hb _⟩
      · rw [pieces_folder_no hs]
        have hI := fun w => i_in size 0 2048 w
        rw [inB_no hs] at hI
        clear hs
        go_enter Tryd.func48, Tryd.ntmps48
        go_wp2_with (first | (go_at_call 46; refine (hE _).mono ?_; rintro r w' ⟨rfl, hb⟩) | (go_at_call 38; refine (hI _).mono ?_; rintro r w' ⟨rfl, rfl⟩))
        go_ret
        exact ⟨rfl, bel_new hb _⟩
    · rw [pieces_none h1 h2]
      have hE := fun w => i_rule0 k h1 h2 w
      clear h1 h2
      go_enter Tryd.func48, Tryd.ntmps48
      go_wp2_with (first | (go_at_call 46; refine (hE _).mono ?_; rintro r w' ⟨rfl, hb⟩))
      go_ret
      exact ⟨rfl, bel_new hb _⟩

end Go.Proofs.YtehmaacbmkfedaaDoor
