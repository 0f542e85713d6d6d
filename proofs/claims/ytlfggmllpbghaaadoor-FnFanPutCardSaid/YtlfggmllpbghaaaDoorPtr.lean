/-
  Pointers: what a comparison of two says, and that both ways of asking whether a pointer is a hole, and whether it is valid, agree. No condition.
-/
import Derived.Test.YtlfggmllpbghaaaDoorNum
import Derived.WalkKit
import Derived.WalkSpells
import Derived.Lib.Hide
import Derived.ProofKit
import Derived.OpenShut
import Derived.ShutString
import Derived.Laws.StructEq
namespace Go.Proofs.YtlfggmllpbghaaaDoor
open Go.RowKit

def same (a b c d e a' b' c' d' e' : Int) : Bool := a == a' && b == b' && c == c' && d == d' && e == e'
def isHole (a b c d e : Int) : Bool := same a b c d e 0 0 0 0 0
def inAll (a b c d e : Int) : Prop := (8 ≤ a ∧ a ≤ 63) ∧ (1 ≤ b ∧ b ≤ 900) ∧ (1 ≤ c ∧ c ≤ 128) ∧ (0 ≤ d ∧ d ≤ 99460728) ∧ (0 ≤ e ∧ e ≤ 2)
instance (a b c d e : Int) : Decidable (inAll a b c d e) := by unfold inAll; infer_instance
def isOk (a b c d e : Int) : Bool := isHole a b c d e || decide (inAll a b c d e)

@[go_sem] theorem eq24 (a b c d e a' b' c' d' e' : Int) (w : World) :
    (Op.equalIn 10000 24 (.agg #[.int .i64 a, .int .i64 b, .int .i64 c, .int .i64 d, .int .i64 e]) (.agg #[.int .i64 a', .int .i64 b', .int .i64 c', .int .i64 d', .int .i64 e'])).run Tryd.prog w = .ok (same a b c d e a' b' c' d' e') w := by
  unfold same
  have u3 := Tryd.underlying3
  have a3 := Tryd.isAgg3
  have z3 := Tryd.sizeOf3
  have hS : Tryd.prog.underlying 24 = some (.struct (Tryd.prog.fieldsOf 24)) := by kernel_rfl
  have hp : Tryd.prog.stoodInHeld 24 = false := by kernel_rfl
  rw [show (10000 : Nat) = 9999 + 1 from rfl, run_equalIn_agg w 9999 24 _ _ hS hp]
  simp only [Program.fieldsOf, Tryd.underlying24]
  go_simp
  by_cases h1 : a = a' <;> by_cases h2 : b = b' <;> by_cases h3 : c = c' <;> by_cases h4 : d = d' <;> by_cases h5 : e = e' <;> simp [h1, h2, h3, h4, h5]

theorem in_yes (n lo hi : Int) (w : World) (h : lo ≤ n ∧ n ≤ hi) : Calls Tryd.prog 44 #[.int .i64 n, .int .i64 lo, .int .i64 hi] w fun e w' => e = .returned (.bool true) ∧ w = w' := by
  obtain ⟨h1, h2⟩ := h
  go_enter Tryd.func44, Tryd.ntmps44
  go_wp2
  go_ret
  exact ⟨rfl, rfl⟩
theorem in_no (n lo hi : Int) (w : World) (h : ¬ (lo ≤ n ∧ n ≤ hi)) : Calls Tryd.prog 44 #[.int .i64 n, .int .i64 lo, .int .i64 hi] w fun e w' => e = .returned (.bool false) ∧ w = w' := by
  by_cases h1 : lo ≤ n
  · have h2 : ¬ n ≤ hi := fun e => h ⟨h1, e⟩
    clear h
    go_enter Tryd.func44, Tryd.ntmps44
    go_wp2
    go_ret
    exact ⟨rfl, rfl⟩
  · clear h
    go_enter Tryd.func44, Tryd.ntmps44
    go_wp2
    go_ret
    exact ⟨rfl, rfl⟩

theorem bel_then {a w w' : World} (h : Below a.heap.size a w) (k : Below w.heap.size w w') : Below a.heap.size a w' := h.trans (k.mono h.size)
theorem bel_new {a w : World} (h : Below a.heap.size a w) (o : Obj) : Below a.heap.size a (w.alloc o) := h.alloc h.size o

theorem im_yes (n lo hi : Int) (w : World) (h : lo ≤ n ∧ n ≤ hi) : Calls Tryd.prog 61 #[.int .i64 n, .int .i64 lo, .int .i64 hi] w fun e w' => e = .returned (.bool true) ∧ w = w' := by
  obtain ⟨h1, h2⟩ := h
  go_enter Tryd.func61, Tryd.ntmps61
  go_wp2
  go_ret
  exact ⟨rfl, rfl⟩
theorem im_no (n lo hi : Int) (w : World) (h : ¬ (lo ≤ n ∧ n ≤ hi)) : Calls Tryd.prog 61 #[.int .i64 n, .int .i64 lo, .int .i64 hi] w fun e w' => e = .returned (.bool false) ∧ w = w' := by
  by_cases h1 : lo ≤ n
  · have h2 : ¬ n ≤ hi := fun e => h ⟨h1, e⟩
    clear h
    go_enter Tryd.func61, Tryd.ntmps61
    go_wp2
    go_ret
    exact ⟨rfl, rfl⟩
  · clear h
    go_enter Tryd.func61, Tryd.ntmps61
    go_wp2
    go_ret
    exact ⟨rfl, rfl⟩
theorem row_yes (n : Int) (w : World) (h : 8 ≤ n ∧ n ≤ 63) : Calls Tryd.prog 43 #[.int .i64 n] w fun e w' => e = .returned (.bool true) ∧ w = w' := by
  go_enter Tryd.func43, Tryd.ntmps43
  go_wp2_with (go_at_call 44; refine (in_yes _ _ _ _ h).mono ?_; rintro e w' ⟨rfl, rfl⟩)
  go_ret
  exact ⟨rfl, rfl⟩
theorem row_no (n : Int) (w : World) (h : ¬ (8 ≤ n ∧ n ≤ 63)) : Calls Tryd.prog 43 #[.int .i64 n] w fun e w' => e = .returned (.bool false) ∧ w = w' := by
  go_enter Tryd.func43, Tryd.ntmps43
  go_wp2_with (go_at_call 44; refine (in_no _ _ _ _ h).mono ?_; rintro e w' ⟨rfl, rfl⟩)
  go_ret
  exact ⟨rfl, rfl⟩

theorem spec_hole (a b c d e : Int) (w : World) : Calls Tryd.prog 20 #[.agg #[.int .i64 a, .int .i64 b, .int .i64 c, .int .i64 d, .int .i64 e]] w fun r w' => r = .returned (.bool (isHole a b c d e)) ∧ w' = w.alloc (.cells #[.int .i64 a, .int .i64 b, .int .i64 c, .int .i64 d, .int .i64 e] 24) := by
  go_enter Tryd.func20, Tryd.ntmps20
  go_wp2
  all_goals go_ret
  all_goals exact ⟨by simp [isHole, same, *], by simp [*]⟩
theorem m_hole (a b c d e : Int) (w : World) : Calls Tryd.prog 46 #[.agg #[.int .i64 a, .int .i64 b, .int .i64 c, .int .i64 d, .int .i64 e]] w fun r w' => r = .returned (.bool (isHole a b c d e)) ∧ w' = w.alloc (.cells #[.int .i64 a, .int .i64 b, .int .i64 c, .int .i64 d, .int .i64 e] 24) := by
  go_enter Tryd.func46, Tryd.ntmps46
  go_wp2
  all_goals go_ret
  all_goals exact ⟨by simp [isHole, same, *], by simp [*]⟩
theorem impl_hole (a b c d e : Int) (w : World) : Calls Tryd.prog 19 #[.agg #[.int .i64 a, .int .i64 b, .int .i64 c, .int .i64 d, .int .i64 e]] w fun r w' => r = .returned (.bool (isHole a b c d e)) ∧ w' = (w.alloc (.cells #[.int .i64 a, .int .i64 b, .int .i64 c, .int .i64 d, .int .i64 e] 24)).alloc (.cells #[.int .i64 a, .int .i64 b, .int .i64 c, .int .i64 d, .int .i64 e] 24) := by
  go_enter Tryd.func19, Tryd.ntmps19
  go_wp2_with (go_at_call 46; refine (m_hole _ _ _ _ _ _).mono ?_; rintro r w' ⟨rfl, rfl⟩)
  go_ret
  exact ⟨rfl, rfl⟩

set_option maxHeartbeats 1000000 in
theorem m_ok (a b c d e : Int) (w : World) : Calls Tryd.prog 42 #[.agg #[.int .i64 a, .int .i64 b, .int .i64 c, .int .i64 d, .int .i64 e]] w fun r w' => r = .returned (.bool (isOk a b c d e)) ∧ w' = (w.alloc (.cells #[.int .i64 a, .int .i64 b, .int .i64 c, .int .i64 d, .int .i64 e] 24)).alloc (.cells #[.int .i64 a, .int .i64 b, .int .i64 c, .int .i64 d, .int .i64 e] 24) := by
  by_cases hh : isHole a b c d e = true
  · have hr : isOk a b c d e = true := by unfold isOk; rw [hh]; rfl
    rw [hr]
    have hM := fun w => m_hole a b c d e w
    rw [hh] at hM
    clear hh hr
    go_enter Tryd.func42, Tryd.ntmps42
    go_wp2_with (go_at_call 46; refine (hM _).mono ?_; rintro r w' ⟨rfl, rfl⟩)
    go_ret
    exact ⟨rfl, rfl⟩
  · have hh' : isHole a b c d e = false := by simpa using hh
    have hM := fun w => m_hole a b c d e w
    rw [hh'] at hM
    by_cases hr : isOk a b c d e = true
    · have hi : inAll a b c d e := by unfold isOk at hr; rw [hh'] at hr; simpa using hr
      obtain ⟨h1, h2, h3, h4, h5⟩ := hi
      rw [hr]
      clear hh hh' hr
      go_enter Tryd.func42, Tryd.ntmps42
      go_wp2_with (first | (go_at_call 46; refine (hM _).mono ?_; rintro r w' ⟨rfl, rfl⟩) | (go_at_call 61; refine (im_yes _ _ _ _ (by assumption)).mono ?_; rintro e w' ⟨rfl, rfl⟩))
      go_ret
      exact ⟨rfl, rfl⟩
    · have hi : ¬ inAll a b c d e := by unfold isOk at hr; rw [hh'] at hr; simpa using hr
      have hr' : isOk a b c d e = false := by simpa using hr
      rw [hr']
      clear hh hh' hr hr'
      unfold inAll at hi
      by_cases h1 : 8 ≤ a ∧ a ≤ 63
      · by_cases h2 : 1 ≤ b ∧ b ≤ 900
        · by_cases h3 : 1 ≤ c ∧ c ≤ 128
          · by_cases h4 : 0 ≤ d ∧ d ≤ 99460728
            · have h5 : ¬ (0 ≤ e ∧ e ≤ 2) := fun h5 => hi ⟨h1, h2, h3, h4, h5⟩
              clear hi
              go_enter Tryd.func42, Tryd.ntmps42
              go_wp2_with (first | (go_at_call 46; refine (hM _).mono ?_; rintro r w' ⟨rfl, rfl⟩) | (go_at_call 61; first | (refine (im_yes _ _ _ _ (by assumption)).mono ?_; rintro e w' ⟨rfl, rfl⟩) | (refine (im_no _ _ _ _ (by assumption)).mono ?_; rintro e w' ⟨rfl, rfl⟩)))
              go_ret
              exact ⟨rfl, rfl⟩
            · clear hi
              go_enter Tryd.func42, Tryd.ntmps42
              go_wp2_with (first | (go_at_call 46; refine (hM _).mono ?_; rintro r w' ⟨rfl, rfl⟩) | (go_at_call 61; first | (refine (im_yes _ _ _ _ (by assumption)).mono ?_; rintro e w' ⟨rfl, rfl⟩) | (refine (im_no _ _ _ _ (by assumption)).mono ?_; rintro e w' ⟨rfl, rfl⟩)))
              go_ret
              exact ⟨rfl, rfl⟩
          · clear hi
            go_enter Tryd.func42, Tryd.ntmps42
            go_wp2_with (first | (go_at_call 46; refine (hM _).mono ?_; rintro r w' ⟨rfl, rfl⟩) | (go_at_call 61; first | (refine (im_yes _ _ _ _ (by assumption)).mono ?_; rintro e w' ⟨rfl, rfl⟩) | (refine (im_no _ _ _ _ (by assumption)).mono ?_; rintro e w' ⟨rfl, rfl⟩)))
            go_ret
            exact ⟨rfl, rfl⟩
        · clear hi
          go_enter Tryd.func42, Tryd.ntmps42
          go_wp2_with (first | (go_at_call 46; refine (hM _).mono ?_; rintro r w' ⟨rfl, rfl⟩) | (go_at_call 61; first | (refine (im_yes _ _ _ _ (by assumption)).mono ?_; rintro e w' ⟨rfl, rfl⟩) | (refine (im_no _ _ _ _ (by assumption)).mono ?_; rintro e w' ⟨rfl, rfl⟩)))
          go_ret
          exact ⟨rfl, rfl⟩
      · clear hi
        go_enter Tryd.func42, Tryd.ntmps42
        go_wp2_with (first | (go_at_call 46; refine (hM _).mono ?_; rintro r w' ⟨rfl, rfl⟩) | (go_at_call 61; refine (im_no _ _ _ _ (by assumption)).mono ?_; rintro e w' ⟨rfl, rfl⟩))
        go_ret
        exact ⟨rfl, rfl⟩

theorem impl_ok (a b c d e : Int) (w : World) : Calls Tryd.prog 15 #[.agg #[.int .i64 a, .int .i64 b, .int .i64 c, .int .i64 d, .int .i64 e]] w fun r w' => r = .returned (.bool (isOk a b c d e)) ∧ w' = ((w.alloc (.cells #[.int .i64 a, .int .i64 b, .int .i64 c, .int .i64 d, .int .i64 e] 24)).alloc (.cells #[.int .i64 a, .int .i64 b, .int .i64 c, .int .i64 d, .int .i64 e] 24)).alloc (.cells #[.int .i64 a, .int .i64 b, .int .i64 c, .int .i64 d, .int .i64 e] 24) := by
  go_enter Tryd.func15, Tryd.ntmps15
  go_wp2_with (go_at_call 42; refine (m_ok _ _ _ _ _ _).mono ?_; rintro r w' ⟨rfl, rfl⟩)
  go_ret
  exact ⟨rfl, rfl⟩

end Go.Proofs.YtlfggmllpbghaaaDoor
