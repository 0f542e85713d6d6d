/-
  PtrFits, both ways: whether a pointer fits a text.
-/
import Derived.Test.YtlfggmllpbghaaaArgs
import Derived.BigQuiet
import Derived.WalkSmall
import Derived.Deep.QuietTactic
import Derived.Deep.RegionHeld3
namespace Go.Proofs.Ytlfggmllpbghaaa
open Go.RowKit

def HP (w : World) (a b c d e : Int) (W : World) : Prop :=
  W.cell? ⟨w.heap.size, 0, none⟩ = some (.int .i64 a) ∧ W.cell? ⟨w.heap.size, 1, none⟩ = some (.int .i64 b) ∧ W.cell? ⟨w.heap.size, 2, none⟩ = some (.int .i64 c) ∧ W.cell? ⟨w.heap.size, 3, none⟩ = some (.int .i64 d) ∧ W.cell? ⟨w.heap.size, 4, none⟩ = some (.int .i64 e) ∧ w.heap.size < W.heap.size ∧ Below w.heap.size w W
theorem HP.next {w W W' : World} {a b c d e : Int} (h : HP w a b c d e W) (hb : Below W.heap.size W W') : HP w a b c d e W' := by
  obtain ⟨h0, h1, h2, h3, h4, hl, hw⟩ := h
  exact ⟨(hb.cell hl).trans h0, (hb.cell hl).trans h1, (hb.cell hl).trans h2, (hb.cell hl).trans h3, (hb.cell hl).trans h4, Nat.lt_of_lt_of_le hl hb.size, hw.trans (hb.mono hw.size)⟩
theorem HP.drew {w W : World} {a b c d e : Int} (h : HP w a b c d e W) : HP w a b c d e W.drew := ⟨h.1, h.2.1, h.2.2.1, h.2.2.2.1, h.2.2.2.2.1, h.2.2.2.2.2.1, h.2.2.2.2.2.2.drew⟩

theorem HP.new (w : World) (a b c d e : Int) (t : TypeId) : HP w a b c d e (w.alloc (.cells #[.int .i64 a, .int .i64 b, .int .i64 c, .int .i64 d, .int .i64 e] t)) :=
  ⟨by rw [World.cell?_alloc_mark]; rfl, by rw [World.cell?_alloc_mark]; rfl, by rw [World.cell?_alloc_mark]; rfl, by rw [World.cell?_alloc_mark]; rfl, by rw [World.cell?_alloc_mark]; rfl, by simp, bel_new (Below.refl _ _) _⟩

def fitsB (a b c d e : Int) (s : ByteArray) : Bool := isOk a b c d e && !isHole a b c d e && (c == (s.size : Int)) && (d == sumT s.data.toList)

set_option maxHeartbeats 1000000 in
theorem m_fits (a b c d e : Int) (s : ByteArray) (w : World) (hs : s.size ≤ maxLen) : Calls Try.prog 31 #[.agg #[.int .i64 a, .int .i64 b, .int .i64 c, .int .i64 d, .int .i64 e], .string s] w fun r w' => r = .returned (.bool ((c == (s.size : Int)) && (d == sumT s.data.toList))) ∧ Below w.heap.size w w' := by
  have hS : ∀ w, Calls Try.prog 17 #[.string s] w fun r w' => r = .returned (.int .i64 (sumT s.data.toList)) ∧ w' = w := fun w => (impl_sum s w hs).mono fun r w' ⟨h1, h2⟩ => ⟨h1, h2.symm⟩
  obtain ⟨z, hz⟩ : ∃ z, z = sumT s.data.toList := ⟨_, rfl⟩
  rw [← hz] at hS ⊢
  clear hz
  by_cases hc : c = (s.size : Int)
  · have hq : (c == (s.size : Int)) = true := by simp [hc]
    have hqd : decide (c = (s.size : Int)) = true := by simp [hc]
    by_cases hd : d = z
    · have hq2 : (d == z) = true := by simp [hd]
      have hq2d : decide (d = z) = true := by simp [hd]
      rw [hq, hq2]
      clear hc hd
      go_enter Try.func31, Try.ntmps31
      go_wp2_with fail
      go_quiet ((go_at_call 17; exact Calls.quiet_of_same (hS _)))
      go_wp2_with fail
      go_ret
      exact ⟨rfl, below_drewN (bel_new (Below.refl _ _) _) _⟩
    · have hq2 : (d == z) = false := by simp [hd]
      have hq2d : decide (d = z) = false := by simp [hd]
      rw [hq, hq2]
      clear hc hd
      go_enter Try.func31, Try.ntmps31
      go_wp2_with fail
      go_quiet ((go_at_call 17; exact Calls.quiet_of_same (hS _)))
      go_wp2_with fail
      go_ret
      exact ⟨rfl, below_drewN (bel_new (Below.refl _ _) _) _⟩
  · have hq : (c == (s.size : Int)) = false := by simp [hc]
    have hqd : decide (c = (s.size : Int)) = false := by simp [hc]
    rw [hq]
    clear hc
    go_enter Try.func31, Try.ntmps31
    go_wp2_with fail
    go_quiet ((go_at_call 17; exact Calls.quiet_of_same (hS _)))
    go_wp2_with fail
    go_ret
    exact ⟨rfl, below_drewN (bel_new (Below.refl _ _) _) _⟩

theorem impl_fits (a b c d e : Int) (s : ByteArray) (w : World) (hs : s.size ≤ maxLen) : Calls Try.prog 13 #[.agg #[.int .i64 a, .int .i64 b, .int .i64 c, .int .i64 d, .int .i64 e], .string s] w fun r w' => r = .returned (.bool (fitsB a b c d e s)) ∧ Below w.heap.size w w' := by
  have hO := fun w => m_ok a b c d e w
  have hM := fun w => m_hole a b c d e w
  have hF := fun w => m_fits a b c d e s w hs
  unfold fitsB
  obtain ⟨x, hx⟩ : ∃ x, x = ((c == (s.size : Int)) && (d == sumT s.data.toList)) := ⟨_, rfl⟩
  rw [Bool.and_assoc, ← hx]
  rw [← hx] at hF
  obtain ⟨o, ho⟩ : ∃ o, o = isOk a b c d e := ⟨_, rfl⟩
  obtain ⟨h, hh⟩ : ∃ h, h = isHole a b c d e := ⟨_, rfl⟩
  rw [← ho] at hO ⊢
  rw [← hh] at hM ⊢
  clear hx ho hh
  cases o <;> cases h
  all_goals
    go_enter Try.func13, Try.ntmps13
    go_wp2_with (first | (go_at_call 27; refine (hO _).mono ?_; rintro r w' ⟨rfl, rfl⟩) | (go_at_call 30; refine (hM _).mono ?_; rintro r w' ⟨rfl, rfl⟩) | (go_at_call 31; refine (hF _).mono ?_; rintro r w' ⟨rfl, hb⟩))
    go_ret
    first
      | exact ⟨rfl, bel_then (bel_new (bel_new (bel_new (bel_new (Below.refl _ _) _) _) _) _) hb⟩
      | exact ⟨rfl, bel_new (bel_new (bel_new (bel_new (Below.refl _ _) _) _) _) _⟩
      | exact ⟨rfl, bel_new (bel_new (bel_new (Below.refl _ _) _) _) _⟩

end Go.Proofs.Ytlfggmllpbghaaa
