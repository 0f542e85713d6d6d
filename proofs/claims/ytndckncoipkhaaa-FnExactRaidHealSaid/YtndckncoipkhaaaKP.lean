/-
  Pointers: five numbers each; a hole, a valid one; a law's copy of one.
  Both ways of reckoning the checksum answer the same number at every text. No condition.
  PtrFits, both ways: whether a pointer fits a text.
-/
import Derived.Test.YtndckncoipkhaaaRWr
import Derived.WalkKit
import Derived.WalkSpells
import Derived.Lib.Hide
import Derived.OpenShut
import Derived.Laws.ResultCell
import Derived.Laws.Rows
import Derived.ProofKit
import Derived.ShutString
import Derived.BigQuiet
import Derived.WalkSmall
import Derived.Deep.QuietTactic
import Derived.Deep.RegionHeld3

namespace Go.Proofs.Ytndckncoipkhaaa.Cut
open Go.RowKit

theorem i_in (n lo hi : Int) (w : World) : Calls Try.prog 74 #[.int .i64 n, .int .i64 lo, .int .i64 hi] w fun e w' => e = .returned (.bool (inB n lo hi)) ∧ w = w' := (within_any n lo hi w).mono fun _ _ h => ⟨h.1, h.2.symm⟩
theorem s_in (n lo hi : Int) (w : World) : Calls Try.prog 72 #[.int .i64 n, .int .i64 lo, .int .i64 hi] w fun e w' => e = .returned (.bool (inB n lo hi)) ∧ w = w' := (in_any n lo hi w).mono fun _ _ h => ⟨h.1, h.2.symm⟩
theorem i_row (n : Int) (w : World) : Calls Try.prog 52 #[.int .i64 n] w fun e w' => e = .returned (.bool (inB n 8 63)) ∧ w = w' := (row52 n w).mono fun _ _ h => ⟨h.1, h.2.symm⟩
theorem s_row (n : Int) (w : World) : Calls Try.prog 47 #[.int .i64 n] w fun e w' => e = .returned (.bool (inB n 8 63)) ∧ w = w' := (row47 n w).mono fun _ _ h => ⟨h.1, h.2.symm⟩
def same (a b c d e a' b' c' d' e' : Int) : Bool := a == a' && b == b' && c == c' && d == d' && e == e'
def isHole (a b c d e : Int) : Bool := same a b c d e 0 0 0 0 0
def isOk (a b c d e : Int) : Bool := isHole a b c d e || (inB a 8 63 && inB b 1 900 && inB c 1 128 && inB d 0 99460728 && inB e 0 2)
structure P5 where
  a : Int
  b : Int
  c : Int
  d : Int
  e : Int
def P5.zero : P5 := ⟨0, 0, 0, 0, 0⟩
def P5.hole (p : P5) : Bool := isHole p.a p.b p.c p.d p.e
def P5.ok (p : P5) : Bool := isOk p.a p.b p.c p.d p.e
@[go_sem] theorem eq65 (a b c d e a' b' c' d' e' : Int) (w : World) :
    (Op.equalIn 10000 43 (.agg #[.int .i64 a, .int .i64 b, .int .i64 c, .int .i64 d, .int .i64 e]) (.agg #[.int .i64 a', .int .i64 b', .int .i64 c', .int .i64 d', .int .i64 e'])).run Try.prog w = .ok (same a b c d e a' b' c' d' e') w := by
  unfold same
  have u3 := Try.underlying3
  have a3 := Try.isAgg3
  have z3 := Try.sizeOf3
  have hS : Try.prog.underlying 43 = some (.struct (Try.prog.fieldsOf 43)) := by kernel_rfl
  have hp : Try.prog.stoodInHeld 43 = false := by kernel_rfl
  rw [show (10000 : Nat) = 9999 + 1 from rfl, run_equalIn_agg w 9999 43 _ _ hS hp]
  simp only [Program.fieldsOf, Try.underlying43]
  go_simp
  by_cases h1 : a = a' <;> by_cases h2 : b = b' <;> by_cases h3 : c = c' <;> by_cases h4 : d = d' <;> by_cases h5 : e = e' <;> simp [h1, h2, h3, h4, h5]

theorem spec_hole (a b c d e : Int) (w : World) : Calls Try.prog 57 #[.agg #[.int .i64 a, .int .i64 b, .int .i64 c, .int .i64 d, .int .i64 e]] w fun r w' => r = .returned (.bool (isHole a b c d e)) ∧ w' = w.alloc (.cells #[.int .i64 a, .int .i64 b, .int .i64 c, .int .i64 d, .int .i64 e] 43) := by
  go_enter Try.func57, Try.ntmps57
  go_wp2
  all_goals go_ret
  all_goals exact ⟨by simp [isHole, same, *], by simp [*]⟩
theorem m_hole (a b c d e : Int) (w : World) : Calls Try.prog 60 #[.agg #[.int .i64 a, .int .i64 b, .int .i64 c, .int .i64 d, .int .i64 e]] w fun r w' => r = .returned (.bool (isHole a b c d e)) ∧ w' = w.alloc (.cells #[.int .i64 a, .int .i64 b, .int .i64 c, .int .i64 d, .int .i64 e] 43) := by
  go_enter Try.func60, Try.ntmps60
  go_wp2
  all_goals go_ret
  all_goals exact ⟨by simp [isHole, same, *], by simp [*]⟩
set_option maxHeartbeats 2000000 in
theorem m_ok (a b c d e : Int) (w : World) : Calls Try.prog 59 #[.agg #[.int .i64 a, .int .i64 b, .int .i64 c, .int .i64 d, .int .i64 e]] w fun r w' => r = .returned (.bool (isOk a b c d e)) ∧ w' = (w.alloc (.cells #[.int .i64 a, .int .i64 b, .int .i64 c, .int .i64 d, .int .i64 e] 43)).alloc (.cells #[.int .i64 a, .int .i64 b, .int .i64 c, .int .i64 d, .int .i64 e] 43) := by
  have hM := fun w => m_hole a b c d e w
  have h1 := fun w => i_row a w
  have h2 := fun w => i_in b 1 900 w
  have h3 := fun w => i_in c 1 128 w
  have h4 := fun w => i_in d 0 99460728 w
  have h5 := fun w => i_in e 0 2 w
  unfold isOk
  generalize isHole a b c d e = hh at *
  generalize inB a 8 63 = b1 at *
  generalize inB b 1 900 = b2 at *
  generalize inB c 1 128 = b3 at *
  generalize inB d 0 99460728 = b4 at *
  generalize inB e 0 2 = b5 at *
  cases hh with
  | true =>
    go_enter Try.func59, Try.ntmps59
    go_wp2_with (first | (go_at_call 60; refine (hM _).mono ?_; rintro r w' ⟨rfl, rfl⟩) | (go_at_call 52; refine (h1 _).mono ?_; rintro r w' ⟨rfl, rfl⟩) | (go_at_call 74; (with_reducible refine (h2 _).mono ?_); rintro r w' ⟨rfl, rfl⟩) | (go_at_call 74; (with_reducible refine (h3 _).mono ?_); rintro r w' ⟨rfl, rfl⟩) | (go_at_call 74; (with_reducible refine (h4 _).mono ?_); rintro r w' ⟨rfl, rfl⟩) | (go_at_call 74; (with_reducible refine (h5 _).mono ?_); rintro r w' ⟨rfl, rfl⟩))
    go_ret
    exact ⟨rfl, rfl⟩
  | false =>
    cases b1 with
    | false =>
      go_enter Try.func59, Try.ntmps59
      go_wp2_with (first | (go_at_call 60; refine (hM _).mono ?_; rintro r w' ⟨rfl, rfl⟩) | (go_at_call 52; refine (h1 _).mono ?_; rintro r w' ⟨rfl, rfl⟩) | (go_at_call 74; (with_reducible refine (h2 _).mono ?_); rintro r w' ⟨rfl, rfl⟩) | (go_at_call 74; (with_reducible refine (h3 _).mono ?_); rintro r w' ⟨rfl, rfl⟩) | (go_at_call 74; (with_reducible refine (h4 _).mono ?_); rintro r w' ⟨rfl, rfl⟩) | (go_at_call 74; (with_reducible refine (h5 _).mono ?_); rintro r w' ⟨rfl, rfl⟩))
      go_ret
      exact ⟨rfl, rfl⟩
    | true =>
      cases b2 with
      | false =>
        go_enter Try.func59, Try.ntmps59
        go_wp2_with (first | (go_at_call 60; refine (hM _).mono ?_; rintro r w' ⟨rfl, rfl⟩) | (go_at_call 52; refine (h1 _).mono ?_; rintro r w' ⟨rfl, rfl⟩) | (go_at_call 74; (with_reducible refine (h2 _).mono ?_); rintro r w' ⟨rfl, rfl⟩) | (go_at_call 74; (with_reducible refine (h3 _).mono ?_); rintro r w' ⟨rfl, rfl⟩) | (go_at_call 74; (with_reducible refine (h4 _).mono ?_); rintro r w' ⟨rfl, rfl⟩) | (go_at_call 74; (with_reducible refine (h5 _).mono ?_); rintro r w' ⟨rfl, rfl⟩))
        go_ret
        exact ⟨rfl, rfl⟩
      | true =>
        cases b3 with
        | false =>
          go_enter Try.func59, Try.ntmps59
          go_wp2_with (first | (go_at_call 60; refine (hM _).mono ?_; rintro r w' ⟨rfl, rfl⟩) | (go_at_call 52; refine (h1 _).mono ?_; rintro r w' ⟨rfl, rfl⟩) | (go_at_call 74; (with_reducible refine (h2 _).mono ?_); rintro r w' ⟨rfl, rfl⟩) | (go_at_call 74; (with_reducible refine (h3 _).mono ?_); rintro r w' ⟨rfl, rfl⟩) | (go_at_call 74; (with_reducible refine (h4 _).mono ?_); rintro r w' ⟨rfl, rfl⟩) | (go_at_call 74; (with_reducible refine (h5 _).mono ?_); rintro r w' ⟨rfl, rfl⟩))
          go_ret
          exact ⟨rfl, rfl⟩
        | true =>
          cases b4 with
          | false =>
            go_enter Try.func59, Try.ntmps59
            go_wp2_with (first | (go_at_call 60; refine (hM _).mono ?_; rintro r w' ⟨rfl, rfl⟩) | (go_at_call 52; refine (h1 _).mono ?_; rintro r w' ⟨rfl, rfl⟩) | (go_at_call 74; (with_reducible refine (h2 _).mono ?_); rintro r w' ⟨rfl, rfl⟩) | (go_at_call 74; (with_reducible refine (h3 _).mono ?_); rintro r w' ⟨rfl, rfl⟩) | (go_at_call 74; (with_reducible refine (h4 _).mono ?_); rintro r w' ⟨rfl, rfl⟩) | (go_at_call 74; (with_reducible refine (h5 _).mono ?_); rintro r w' ⟨rfl, rfl⟩))
            go_ret
            exact ⟨rfl, rfl⟩
          | true =>
            cases b5 with
            | false =>
              go_enter Try.func59, Try.ntmps59
              go_wp2_with (first | (go_at_call 60; refine (hM _).mono ?_; rintro r w' ⟨rfl, rfl⟩) | (go_at_call 52; refine (h1 _).mono ?_; rintro r w' ⟨rfl, rfl⟩) | (go_at_call 74; (with_reducible refine (h2 _).mono ?_); rintro r w' ⟨rfl, rfl⟩) | (go_at_call 74; (with_reducible refine (h3 _).mono ?_); rintro r w' ⟨rfl, rfl⟩) | (go_at_call 74; (with_reducible refine (h4 _).mono ?_); rintro r w' ⟨rfl, rfl⟩) | (go_at_call 74; (with_reducible refine (h5 _).mono ?_); rintro r w' ⟨rfl, rfl⟩))
              go_ret
              exact ⟨rfl, rfl⟩
            | true =>
              go_enter Try.func59, Try.ntmps59
              go_wp2_with (first | (go_at_call 60; refine (hM _).mono ?_; rintro r w' ⟨rfl, rfl⟩) | (go_at_call 52; refine (h1 _).mono ?_; rintro r w' ⟨rfl, rfl⟩) | (go_at_call 74; (with_reducible refine (h2 _).mono ?_); rintro r w' ⟨rfl, rfl⟩) | (go_at_call 74; (with_reducible refine (h3 _).mono ?_); rintro r w' ⟨rfl, rfl⟩) | (go_at_call 74; (with_reducible refine (h4 _).mono ?_); rintro r w' ⟨rfl, rfl⟩) | (go_at_call 74; (with_reducible refine (h5 _).mono ?_); rintro r w' ⟨rfl, rfl⟩))
              go_ret
              exact ⟨rfl, rfl⟩

set_option maxHeartbeats 2000000 in
theorem spec_pok (a b c d e : Int) (w : World) : Calls Try.prog 56 #[.agg #[.int .i64 a, .int .i64 b, .int .i64 c, .int .i64 d, .int .i64 e]] w fun r w' => r = .returned (.bool (isOk a b c d e)) ∧ w' = (w.alloc (.cells #[.int .i64 a, .int .i64 b, .int .i64 c, .int .i64 d, .int .i64 e] 43)).alloc (.cells #[.int .i64 a, .int .i64 b, .int .i64 c, .int .i64 d, .int .i64 e] 43) := by
  have hM := fun w => spec_hole a b c d e w
  have h1 := fun w => s_row a w
  have h2 := fun w => s_in b 1 900 w
  have h3 := fun w => s_in c 1 128 w
  have h4 := fun w => s_in d 0 99460728 w
  have h5 := fun w => s_in e 0 2 w
  unfold isOk
  generalize isHole a b c d e = hh at *
  generalize inB a 8 63 = b1 at *
  generalize inB b 1 900 = b2 at *
  generalize inB c 1 128 = b3 at *
  generalize inB d 0 99460728 = b4 at *
  generalize inB e 0 2 = b5 at *
  cases hh with
  | true =>
    go_enter Try.func56, Try.ntmps56
    go_wp2_with (first | (go_at_call 57; refine (hM _).mono ?_; rintro r w' ⟨rfl, rfl⟩) | (go_at_call 47; refine (h1 _).mono ?_; rintro r w' ⟨rfl, rfl⟩) | (go_at_call 72; (with_reducible refine (h2 _).mono ?_); rintro r w' ⟨rfl, rfl⟩) | (go_at_call 72; (with_reducible refine (h3 _).mono ?_); rintro r w' ⟨rfl, rfl⟩) | (go_at_call 72; (with_reducible refine (h4 _).mono ?_); rintro r w' ⟨rfl, rfl⟩) | (go_at_call 72; (with_reducible refine (h5 _).mono ?_); rintro r w' ⟨rfl, rfl⟩))
    go_ret
    exact ⟨rfl, rfl⟩
  | false =>
    cases b1 with
    | false =>
      go_enter Try.func56, Try.ntmps56
      go_wp2_with (first | (go_at_call 57; refine (hM _).mono ?_; rintro r w' ⟨rfl, rfl⟩) | (go_at_call 47; refine (h1 _).mono ?_; rintro r w' ⟨rfl, rfl⟩) | (go_at_call 72; (with_reducible refine (h2 _).mono ?_); rintro r w' ⟨rfl, rfl⟩) | (go_at_call 72; (with_reducible refine (h3 _).mono ?_); rintro r w' ⟨rfl, rfl⟩) | (go_at_call 72; (with_reducible refine (h4 _).mono ?_); rintro r w' ⟨rfl, rfl⟩) | (go_at_call 72; (with_reducible refine (h5 _).mono ?_); rintro r w' ⟨rfl, rfl⟩))
      go_ret
      exact ⟨rfl, rfl⟩
    | true =>
      cases b2 with
      | false =>
        go_enter Try.func56, Try.ntmps56
        go_wp2_with (first | (go_at_call 57; refine (hM _).mono ?_; rintro r w' ⟨rfl, rfl⟩) | (go_at_call 47; refine (h1 _).mono ?_; rintro r w' ⟨rfl, rfl⟩) | (go_at_call 72; (with_reducible refine (h2 _).mono ?_); rintro r w' ⟨rfl, rfl⟩) | (go_at_call 72; (with_reducible refine (h3 _).mono ?_); rintro r w' ⟨rfl, rfl⟩) | (go_at_call 72; (with_reducible refine (h4 _).mono ?_); rintro r w' ⟨rfl, rfl⟩) | (go_at_call 72; (with_reducible refine (h5 _).mono ?_); rintro r w' ⟨rfl, rfl⟩))
        go_ret
        exact ⟨rfl, rfl⟩
      | true =>
        cases b3 with
        | false =>
          go_enter Try.func56, Try.ntmps56
          go_wp2_with (first | (go_at_call 57; refine (hM _).mono ?_; rintro r w' ⟨rfl, rfl⟩) | (go_at_call 47; refine (h1 _).mono ?_; rintro r w' ⟨rfl, rfl⟩) | (go_at_call 72; (with_reducible refine (h2 _).mono ?_); rintro r w' ⟨rfl, rfl⟩) | (go_at_call 72; (with_reducible refine (h3 _).mono ?_); rintro r w' ⟨rfl, rfl⟩) | (go_at_call 72; (with_reducible refine (h4 _).mono ?_); rintro r w' ⟨rfl, rfl⟩) | (go_at_call 72; (with_reducible refine (h5 _).mono ?_); rintro r w' ⟨rfl, rfl⟩))
          go_ret
          exact ⟨rfl, rfl⟩
        | true =>
          cases b4 with
          | false =>
            go_enter Try.func56, Try.ntmps56
            go_wp2_with (first | (go_at_call 57; refine (hM _).mono ?_; rintro r w' ⟨rfl, rfl⟩) | (go_at_call 47; refine (h1 _).mono ?_; rintro r w' ⟨rfl, rfl⟩) | (go_at_call 72; (with_reducible refine (h2 _).mono ?_); rintro r w' ⟨rfl, rfl⟩) | (go_at_call 72; (with_reducible refine (h3 _).mono ?_); rintro r w' ⟨rfl, rfl⟩) | (go_at_call 72; (with_reducible refine (h4 _).mono ?_); rintro r w' ⟨rfl, rfl⟩) | (go_at_call 72; (with_reducible refine (h5 _).mono ?_); rintro r w' ⟨rfl, rfl⟩))
            go_ret
            exact ⟨rfl, rfl⟩
          | true =>
            cases b5 with
            | false =>
              go_enter Try.func56, Try.ntmps56
              go_wp2_with (first | (go_at_call 57; refine (hM _).mono ?_; rintro r w' ⟨rfl, rfl⟩) | (go_at_call 47; refine (h1 _).mono ?_; rintro r w' ⟨rfl, rfl⟩) | (go_at_call 72; (with_reducible refine (h2 _).mono ?_); rintro r w' ⟨rfl, rfl⟩) | (go_at_call 72; (with_reducible refine (h3 _).mono ?_); rintro r w' ⟨rfl, rfl⟩) | (go_at_call 72; (with_reducible refine (h4 _).mono ?_); rintro r w' ⟨rfl, rfl⟩) | (go_at_call 72; (with_reducible refine (h5 _).mono ?_); rintro r w' ⟨rfl, rfl⟩))
              go_ret
              exact ⟨rfl, rfl⟩
            | true =>
              go_enter Try.func56, Try.ntmps56
              go_wp2_with (first | (go_at_call 57; refine (hM _).mono ?_; rintro r w' ⟨rfl, rfl⟩) | (go_at_call 47; refine (h1 _).mono ?_; rintro r w' ⟨rfl, rfl⟩) | (go_at_call 72; (with_reducible refine (h2 _).mono ?_); rintro r w' ⟨rfl, rfl⟩) | (go_at_call 72; (with_reducible refine (h3 _).mono ?_); rintro r w' ⟨rfl, rfl⟩) | (go_at_call 72; (with_reducible refine (h4 _).mono ?_); rintro r w' ⟨rfl, rfl⟩) | (go_at_call 72; (with_reducible refine (h5 _).mono ?_); rintro r w' ⟨rfl, rfl⟩))
              go_ret
              exact ⟨rfl, rfl⟩

theorem to_ptr (a b c d e : Int) (w : World) : Calls Try.prog 23 #[.agg #[.int .i64 a, .int .i64 b, .int .i64 c, .int .i64 d, .int .i64 e]] w fun r w' => r = .returned (.agg #[.int .i64 a, .int .i64 b, .int .i64 c, .int .i64 d, .int .i64 e]) ∧ w' = ((w.alloc (.cells #[.int .i64 a, .int .i64 b, .int .i64 c, .int .i64 d, .int .i64 e] 40)).alloc (.cells #[.int .i64 a, .int .i64 b, .int .i64 c, .int .i64 d, .int .i64 e] 43)).alloc (.cells #[.int .i64 a, .int .i64 b, .int .i64 c, .int .i64 d, .int .i64 e] 43) := by
  go_enter Try.func23, Try.ntmps23
  go_wp2
  refine bodyPost_ret (v := .agg #[.int .i64 a, .int .i64 b, .int .i64 c, .int .i64 d, .int .i64 e]) (by simp [results, Try.f23, go_sem]) rfl ⟨rfl, rfl⟩

end Go.Proofs.Ytndckncoipkhaaa.Cut

namespace Go.Proofs.Ytndckncoipkhaaa.Cut
open Go.RowKit

def sstep (p : Int × Int) (c : UInt8) : Int × Int := ((p.1 + (c.toNat : Int) + 1) % 9973, (p.2 + (p.1 + (c.toNat : Int) + 1) % 9973) % 9973)
def sums (l : List UInt8) : Int × Int := l.foldl sstep (1, 0)
def sumA (l : List UInt8) : Int := (sums l).1
def sumB (l : List UInt8) : Int := (sums l).2
def sumT (l : List UInt8) : Int := sumA l * 9973 + sumB l

theorem sums_snoc (l : List UInt8) (c : UInt8) : sums (l ++ [c]) = sstep (sums l) c := by
  unfold sums; rw [List.foldl_append]; rfl
theorem sumA_snoc (l : List UInt8) (c : UInt8) : sumA (l ++ [c]) = (sumA l + (c.toNat : Int) + 1) % 9973 := by
  unfold sumA; rw [sums_snoc]; rfl
theorem sumB_snoc (l : List UInt8) (c : UInt8) : sumB (l ++ [c]) = (sumB l + (sumA l + (c.toNat : Int) + 1) % 9973) % 9973 := by
  unfold sumB; rw [sums_snoc]; rfl
theorem sstep_bd (l : List UInt8) (p : Int × Int) (h : 0 ≤ p.1 ∧ p.1 < 9973 ∧ 0 ≤ p.2 ∧ p.2 < 9973) :
    0 ≤ (l.foldl sstep p).1 ∧ (l.foldl sstep p).1 < 9973 ∧ 0 ≤ (l.foldl sstep p).2 ∧ (l.foldl sstep p).2 < 9973 := by
  induction l generalizing p with
  | nil => exact h
  | cons c l ih =>
    rw [List.foldl_cons]
    apply ih
    unfold sstep
    dsimp only
    omega
theorem sums_bd (l : List UInt8) : 0 ≤ sumA l ∧ sumA l < 9973 ∧ 0 ≤ sumB l ∧ sumB l < 9973 :=
  sstep_bd l (1, 0) (by decide)
theorem sumT_bd (l : List UInt8) : 0 ≤ sumT l ∧ sumT l ≤ 99460728 := by
  have := sums_bd l
  unfold sumT
  omega

theorem ret_int {k : IntKind} {a b : Int} (h : a = b) : Ending.returned (.int k a) = .returned (.int k b) := by rw [h]
theorem take_snoc (s : ByteArray) (k : Nat) (h : k < s.size) : s.data.toList.take (k + 1) = s.data.toList.take k ++ [s[k]] := by
  rw [List.take_succ_eq_append_getElem (by simpa using h)]; rfl
theorem u8_bd (c : UInt8) : 0 ≤ (c.toNat : Int) ∧ (c.toNat : Int) ≤ 255 := by
  have := c.toNat_lt
  omega

set_option maxHeartbeats 400000 in
theorem spec_sum (s : ByteArray) (w : World) (hs : s.size ≤ maxLen) :
    Calls Try.prog 123 #[.string s] w fun e w' => e = .returned (.int .i64 (sumT s.data.toList)) ∧ w = w' := by
  unfold maxLen at hs
  go_enter Try.func123, Try.ntmps123
  go_wp2
  go_loop [3, 4, 5] (fun a b i => ∃ k : Nat, k ≤ s.size ∧ i = .int .i64 k ∧ a = .int .i64 (sumA (s.data.toList.take k)) ∧ b = .int .i64 (sumB (s.data.toList.take k))) (fun _ _ i => s.size - (intOf i).toNat)
  case atStart => exact ⟨0, Nat.zero_le _, rfl, rfl, rfl⟩
  case round =>
    obtain ⟨k, hk, rfl, rfl, rfl⟩ := hrel
    obtain ⟨ha0, ha1, hb0, hb1⟩ := sums_bd (s.data.toList.take k)
    by_cases hlt : k < s.size
    · obtain ⟨hc0, hc1⟩ := u8_bd s[k]
      have hA := sumA_snoc (s.data.toList.take k) s[k]
      have hB := sumB_snoc (s.data.toList.take k) s[k]
      rw [← take_snoc s k hlt] at hA hB
      have HA := Lib.hid hA
      have HB := Lib.hid hB
      clear hA hB
      go_wp2
      all_goals
        go_round
        case rel => exact ⟨k + 1, by omega, by go_num, by rw [HA.out], by rw [HB.out]⟩
        case measure => simp [intOf]; omega
    · go_wp2
      go_ret
      exact ⟨ret_int (by rw [List.take_of_length_le (by simp; omega)]; rfl), rfl⟩

set_option maxHeartbeats 400000 in
theorem impl_sum (s : ByteArray) (w : World) (hs : s.size ≤ maxLen) :
    Calls Try.prog 127 #[.string s] w fun e w' => e = .returned (.int .i64 (sumT s.data.toList)) ∧ w = w' := by
  unfold maxLen at hs
  go_enter Try.func127, Try.ntmps127
  go_wp2
  go_loop [3, 4, 8] (fun a b i => ∃ k : Nat, k ≤ s.size ∧ i = .int .i64 k ∧ a = .int .i64 (sumA (s.data.toList.take k)) ∧ b = .int .i64 (sumB (s.data.toList.take k))) (fun _ _ i => s.size - (intOf i).toNat)
  case atStart => exact ⟨0, Nat.zero_le _, rfl, rfl, rfl⟩
  case round =>
    obtain ⟨k, hk, rfl, rfl, rfl⟩ := hrel
    obtain ⟨ha0, ha1, hb0, hb1⟩ := sums_bd (s.data.toList.take k)
    by_cases hlt : k < s.size
    · obtain ⟨hc0, hc1⟩ := u8_bd s[k]
      have hA := sumA_snoc (s.data.toList.take k) s[k]
      have hB := sumB_snoc (s.data.toList.take k) s[k]
      rw [← take_snoc s k hlt] at hA hB
      have HA := Lib.hid hA
      have HB := Lib.hid hB
      clear hA hB
      go_wp2
      all_goals
        go_round
        case rel => exact ⟨k + 1, by omega, by go_num, by rw [HA.out], by rw [HB.out, Int.add_comm]⟩
        case measure => simp [intOf]; omega
    · go_wp2
      go_ret
      exact ⟨ret_int (by rw [List.take_of_length_le (by simp; omega)]; rfl), rfl⟩

end Go.Proofs.Ytndckncoipkhaaa.Cut

namespace Go.Proofs.Ytndckncoipkhaaa.Cut
open Go.RowKit

def HP (w : World) (a b c d e : Int) (W : World) : Prop :=
  W.cell? ⟨w.heap.size, 0, none⟩ = some (.int .i64 a) ∧ W.cell? ⟨w.heap.size, 1, none⟩ = some (.int .i64 b) ∧ W.cell? ⟨w.heap.size, 2, none⟩ = some (.int .i64 c) ∧ W.cell? ⟨w.heap.size, 3, none⟩ = some (.int .i64 d) ∧ W.cell? ⟨w.heap.size, 4, none⟩ = some (.int .i64 e) ∧ w.heap.size < W.heap.size ∧ Below w.heap.size w W
theorem HP.next {w W W' : World} {a b c d e : Int} (h : HP w a b c d e W) (hb : Below W.heap.size W W') : HP w a b c d e W' := by
  obtain ⟨h0, h1, h2, h3, h4, hl, hw⟩ := h
  exact ⟨(hb.cell hl).trans h0, (hb.cell hl).trans h1, (hb.cell hl).trans h2, (hb.cell hl).trans h3, (hb.cell hl).trans h4, Nat.lt_of_lt_of_le hl hb.size, hw.trans (hb.mono hw.size)⟩
theorem HP.drew {w W : World} {a b c d e : Int} (h : HP w a b c d e W) : HP w a b c d e W.drew := ⟨h.1, h.2.1, h.2.2.1, h.2.2.2.1, h.2.2.2.2.1, h.2.2.2.2.2.1, h.2.2.2.2.2.2.drew⟩

theorem HP.new (w : World) (a b c d e : Int) (t : TypeId) : HP w a b c d e (w.alloc (.cells #[.int .i64 a, .int .i64 b, .int .i64 c, .int .i64 d, .int .i64 e] t)) :=
  ⟨by rw [World.cell?_alloc_mark]; rfl, by rw [World.cell?_alloc_mark]; rfl, by rw [World.cell?_alloc_mark]; rfl, by rw [World.cell?_alloc_mark]; rfl, by rw [World.cell?_alloc_mark]; rfl, by simp, bel_new (Below.refl _ _) _⟩

def fitsB (a b c d e : Int) (s : ByteArray) : Bool := isOk a b c d e && !isHole a b c d e && (c == (s.size : Int)) && (d == sumT s.data.toList)

set_option maxHeartbeats 1000000 in
theorem m_fits (a b c d e : Int) (s : ByteArray) (w : World) (hs : s.size ≤ maxLen) : Calls Try.prog 99 #[.agg #[.int .i64 a, .int .i64 b, .int .i64 c, .int .i64 d, .int .i64 e], .string s] w fun r w' => r = .returned (.bool ((c == (s.size : Int)) && (d == sumT s.data.toList))) ∧ Below w.heap.size w w' := by
  have hS : ∀ w, Calls Try.prog 127 #[.string s] w fun r w' => r = .returned (.int .i64 (sumT s.data.toList)) ∧ w' = w := fun w => (impl_sum s w hs).mono fun r w' ⟨h1, h2⟩ => ⟨h1, h2.symm⟩
  obtain ⟨z, hz⟩ : ∃ z, z = sumT s.data.toList := ⟨_, rfl⟩
  rw [← hz] at hS ⊢
  clear hz
  by_cases hc : c = (s.size : Int)
  · have hq : (c == (s.size : Int)) = true := by simp [hc]
    have hqd : decide (c = (s.size : Int)) = true := by simp [hc]
    by_cases hd : d = z
    · have hq2 : (d == z) = true := by simp [hd]
      have hq2d : decide (d = z) = true := by simp [hd]
      rw [hq, hq2]
      clear hc hd
      go_enter Try.func99, Try.ntmps99
      go_wp2_with fail
      go_quiet ((go_at_call 127; exact Calls.quiet_of_same (hS _)))
      go_wp2_with fail
      go_ret
      exact ⟨rfl, below_drewN (bel_new (Below.refl _ _) _) _⟩
    · have hq2 : (d == z) = false := by simp [hd]
      have hq2d : decide (d = z) = false := by simp [hd]
      rw [hq, hq2]
      clear hc hd
      go_enter Try.func99, Try.ntmps99
      go_wp2_with fail
      go_quiet ((go_at_call 127; exact Calls.quiet_of_same (hS _)))
      go_wp2_with fail
      go_ret
      exact ⟨rfl, below_drewN (bel_new (Below.refl _ _) _) _⟩
  · have hq : (c == (s.size : Int)) = false := by simp [hc]
    have hqd : decide (c = (s.size : Int)) = false := by simp [hc]
    rw [hq]
    clear hc
    go_enter Try.func99, Try.ntmps99
    go_wp2_with fail
    go_quiet ((go_at_call 127; exact Calls.quiet_of_same (hS _)))
    go_wp2_with fail
    go_ret
    exact ⟨rfl, below_drewN (bel_new (Below.refl _ _) _) _⟩
end Go.Proofs.Ytndckncoipkhaaa.Cut
