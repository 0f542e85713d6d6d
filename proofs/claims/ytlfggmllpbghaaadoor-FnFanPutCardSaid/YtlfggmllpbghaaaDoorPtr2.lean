/-
  Pointers: a law's copy of one, what is valid, and the comparison of two, field by field. No condition.
-/
import Derived.Test.YtlfggmllpbghaaaDoorPtr
import Derived.Laws.ResultCell
import Derived.Laws.Rows
namespace Go.Proofs.YtlfggmllpbghaaaDoor
open Go.RowKit

set_option maxHeartbeats 1000000 in
theorem spec_ok (a b c d e : Int) (w : World) : Calls Tryd.prog 16 #[.agg #[.int .i64 a, .int .i64 b, .int .i64 c, .int .i64 d, .int .i64 e]] w fun r w' => r = .returned (.bool (isOk a b c d e)) ∧ w' = (w.alloc (.cells #[.int .i64 a, .int .i64 b, .int .i64 c, .int .i64 d, .int .i64 e] 24)).alloc (.cells #[.int .i64 a, .int .i64 b, .int .i64 c, .int .i64 d, .int .i64 e] 24) := by
  by_cases hh : isHole a b c d e = true
  · have hr : isOk a b c d e = true := by unfold isOk; rw [hh]; rfl
    rw [hr]
    have hM := fun w => spec_hole a b c d e w
    rw [hh] at hM
    clear hh hr
    go_enter Tryd.func16, Tryd.ntmps16
    go_wp2_with (go_at_call 20; refine (hM _).mono ?_; rintro r w' ⟨rfl, rfl⟩)
    go_ret
    exact ⟨rfl, rfl⟩
  · have hh' : isHole a b c d e = false := by simpa using hh
    have hM := fun w => spec_hole a b c d e w
    rw [hh'] at hM
    by_cases hr : isOk a b c d e = true
    · have hi : inAll a b c d e := by unfold isOk at hr; rw [hh'] at hr; simpa using hr
      obtain ⟨h1, h2, h3, h4, h5⟩ := hi
      rw [hr]
      clear hh hh' hr
      go_enter Tryd.func16, Tryd.ntmps16
      go_wp2_with (first | (go_at_call 20; refine (hM _).mono ?_; rintro r w' ⟨rfl, rfl⟩) | (go_at_call 43; refine (row_yes _ _ (by assumption)).mono ?_; rintro e w' ⟨rfl, rfl⟩) | (go_at_call 44; refine (in_yes _ _ _ _ (by assumption)).mono ?_; rintro e w' ⟨rfl, rfl⟩))
      go_ret
      exact ⟨rfl, rfl⟩
    · have hi : ¬ inAll a b c d e := by unfold isOk at hr; rw [hh'] at hr; simpa using hr
      have hr' : isOk a b c d e = false := by simpa using hr
      rw [hr']
      clear hh hh' hr hr'
      unfold inAll at hi
      by_cases h1 : 8 ≤ a ∧ a ≤ 63
      · have h2345 : ¬ ((1 ≤ b ∧ b ≤ 900) ∧ (1 ≤ c ∧ c ≤ 128) ∧ (0 ≤ d ∧ d ≤ 99460728) ∧ (0 ≤ e ∧ e ≤ 2)) := fun h => hi ⟨h1, h⟩
        clear hi
        by_cases h2 : 1 ≤ b ∧ b ≤ 900
        · by_cases h3 : 1 ≤ c ∧ c ≤ 128
          · by_cases h4 : 0 ≤ d ∧ d ≤ 99460728
            · have h5 : ¬ (0 ≤ e ∧ e ≤ 2) := fun h5 => h2345 ⟨h2, h3, h4, h5⟩
              clear h2345
              go_enter Tryd.func16, Tryd.ntmps16
              go_wp2_with (first | (go_at_call 20; refine (hM _).mono ?_; rintro r w' ⟨rfl, rfl⟩) | (go_at_call 43; refine (row_yes _ _ (by assumption)).mono ?_; rintro e w' ⟨rfl, rfl⟩) | (go_at_call 44; first | (refine (in_yes _ _ _ _ (by assumption)).mono ?_; rintro e w' ⟨rfl, rfl⟩) | (refine (in_no _ _ _ _ (by assumption)).mono ?_; rintro e w' ⟨rfl, rfl⟩)))
              go_ret
              exact ⟨rfl, rfl⟩
            · clear h2345
              go_enter Tryd.func16, Tryd.ntmps16
              go_wp2_with (first | (go_at_call 20; refine (hM _).mono ?_; rintro r w' ⟨rfl, rfl⟩) | (go_at_call 43; refine (row_yes _ _ (by assumption)).mono ?_; rintro e w' ⟨rfl, rfl⟩) | (go_at_call 44; first | (refine (in_yes _ _ _ _ (by assumption)).mono ?_; rintro e w' ⟨rfl, rfl⟩) | (refine (in_no _ _ _ _ (by assumption)).mono ?_; rintro e w' ⟨rfl, rfl⟩)))
              go_ret
              exact ⟨rfl, rfl⟩
          · clear h2345
            go_enter Tryd.func16, Tryd.ntmps16
            go_wp2_with (first | (go_at_call 20; refine (hM _).mono ?_; rintro r w' ⟨rfl, rfl⟩) | (go_at_call 43; refine (row_yes _ _ (by assumption)).mono ?_; rintro e w' ⟨rfl, rfl⟩) | (go_at_call 44; first | (refine (in_yes _ _ _ _ (by assumption)).mono ?_; rintro e w' ⟨rfl, rfl⟩) | (refine (in_no _ _ _ _ (by assumption)).mono ?_; rintro e w' ⟨rfl, rfl⟩)))
            go_ret
            exact ⟨rfl, rfl⟩
        · clear h2345
          go_enter Tryd.func16, Tryd.ntmps16
          go_wp2_with (first | (go_at_call 20; refine (hM _).mono ?_; rintro r w' ⟨rfl, rfl⟩) | (go_at_call 43; refine (row_yes _ _ (by assumption)).mono ?_; rintro e w' ⟨rfl, rfl⟩) | (go_at_call 44; first | (refine (in_yes _ _ _ _ (by assumption)).mono ?_; rintro e w' ⟨rfl, rfl⟩) | (refine (in_no _ _ _ _ (by assumption)).mono ?_; rintro e w' ⟨rfl, rfl⟩)))
          go_ret
          exact ⟨rfl, rfl⟩
      · clear hi
        go_enter Tryd.func16, Tryd.ntmps16
        go_wp2_with (first | (go_at_call 20; refine (hM _).mono ?_; rintro r w' ⟨rfl, rfl⟩) | (go_at_call 43; refine (row_no _ _ (by assumption)).mono ?_; rintro e w' ⟨rfl, rfl⟩))
        go_ret
        exact ⟨rfl, rfl⟩

theorem box_cell {w w' : World} {vs : Array Value} {t : TypeId} (hb : Below (w.alloc (.cells vs t)).heap.size (w.alloc (.cells vs t)) w') (k : Nat) (v : Value) (h : vs[k]? = some v) : w'.cell? ⟨w.heap.size, k, none⟩ = some v := by
  rw [hb.cell (by simp), World.cell?_alloc_mark]
  exact h
theorem to_ptr (a b c d e : Int) (w : World) : Calls Tryd.prog 33 #[.agg #[.int .i64 a, .int .i64 b, .int .i64 c, .int .i64 d, .int .i64 e]] w fun r w' => r = .returned (.agg #[.int .i64 a, .int .i64 b, .int .i64 c, .int .i64 d, .int .i64 e]) ∧ w' = ((w.alloc (.cells #[.int .i64 a, .int .i64 b, .int .i64 c, .int .i64 d, .int .i64 e] 40)).alloc (.cells #[.int .i64 a, .int .i64 b, .int .i64 c, .int .i64 d, .int .i64 e] 24)).alloc (.cells #[.int .i64 a, .int .i64 b, .int .i64 c, .int .i64 d, .int .i64 e] 24) := by
  go_enter Tryd.func33, Tryd.ntmps33
  go_wp2
  refine bodyPost_ret (v := .agg #[.int .i64 a, .int .i64 b, .int .i64 c, .int .i64 d, .int .i64 e]) (by simp [results, Tryd.f33, go_sem]) rfl ⟨rfl, rfl⟩

theorem eq_ptr (a b c d e : Int) (w : World) : Calls Tryd.prog 34 #[.agg #[.int .i64 a, .int .i64 b, .int .i64 c, .int .i64 d, .int .i64 e], .agg #[.int .i64 a, .int .i64 b, .int .i64 c, .int .i64 d, .int .i64 e]] w fun r w' => r = .returned (.bool true) ∧ w' = (w.alloc (.cells #[.int .i64 a, .int .i64 b, .int .i64 c, .int .i64 d, .int .i64 e] 24)).alloc (.cells #[.int .i64 a, .int .i64 b, .int .i64 c, .int .i64 d, .int .i64 e] 24) := by
  go_enter Tryd.func34, Tryd.ntmps34
  go_wp2
  go_ret
  exact ⟨rfl, rfl⟩

end Go.Proofs.YtlfggmllpbghaaaDoor
