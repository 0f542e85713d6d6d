/-
  FnExactStripeCut's walk.
-/
import Derived.Test.YtohfadgbmlfcmaaCutW
namespace Go.Proofs.Ytohfadgbmlfcmaa
open Go.RowKit

theorem own_apart {w w' : World} {b1 b2 : Nat} {t : TypeId} {sz n m : Nat} {v u : Value} {xs ys : List Value} (h : w.ownsRow b1 t sz v n xs) (g : w.ownsRow b2 t sz u m ys) (hne : ∀ k, v.ownBlock = some k → k < b2) (hg : w.grownBy w' u.ownBlock) : w'.ownsRow b1 t sz v n xs := by
  refine h.kept hg ?_
  cases e : v.ownBlock with
  | none => exact .inl rfl
  | some k =>
    refine .inr fun e2 => ?_
    have a := hne k e
    have b := (g.lt k e2.symm).1
    omega
/-- A mark, and a look at it, as a law asks them. -/
theorem mark_one (base : Nat) (A : Option Addr) (c : Nat) (ss : List ByteArray) (z : Int) (hz : z = 1 + (ss.length : Int)) (w : World) (hn : ss.length ≤ 100) (ho : w.ownsRow base 9 1 (.slice A ss.length c) ss.length (strCells ss)) :
    Calls Try.prog 12 #[.slice A ss.length c, .int .i64 1] w fun r w' => r = .returned (.int .i64 z) ∧ w'.ownsRow base 9 1 (.slice A ss.length c) ss.length (strCells (marks 1 ss.length)) ∧ w.grownBy w' (Value.slice A ss.length c).ownBlock := by
  subst hz
  exact (mark_strs base 9 A c ss 1 w (by omega) (by omega) ho).mono fun r w' h => h
theorem held_one (base : Nat) (A : Option Addr) (c n : Nat) (z : Int) (hz : z = 1 + (n : Int)) (w : World) (hn : n ≤ 100) (ho : w.ownsRow base 9 1 (.slice A n c) n (strCells (marks 1 n))) :
    Calls Try.prog 13 #[.slice A n c, .int .i64 1] w fun r w' => r = .returned (.int .i64 z) ∧ Below w.heap.size w w' := by
  subst hz
  exact (held_strs base 9 A c n 1 w (by omega) (by omega) ho).mono fun r w' h => h
theorem cutD_len (t : ByteArray) : (cutD t).length ≤ 3 := by
  unfold cutD
  split
  · exact Nat.le_refl _
  · exact Nat.zero_le _
theorem row_lies {w : World} {base n c : Nat} {A : Option Addr} {xs : List Value} (h : w.ownsRow base 9 1 (.slice A n c) n xs) : Lies w A xs := by
  obtain ⟨A', c', e, hl⟩ := own_lies h
  cases e
  exact hl

set_option maxRecDepth 100000 in
set_option maxHeartbeats 8000000 in
theorem walk_ecut (t : ByteArray) (w : World) (ht : t.size ≤ maxLen) : Calls Try.prog 3 #[.string t] w fun r w' => r = .returned (.bool true) ∧ Below w.heap.size w w' := by
  by_cases hbig : 1048576 < t.size
  · have hbig2 : (1048576 : Int) < (t.size : Int) := by omega
    clear ht hbig
    go_enter Try.func3, Try.ntmps3
    go_wp2
    go_ret
    exact ⟨rfl, Below.refl _ _⟩
  have hbig2 : ¬ (1048576 : Int) < (t.size : Int) := by omega
  have hS := fun w => spec_cut t w ht
  have hI := fun w => impl_cut t w ht
  have hl := cutD_len t
  obtain ⟨ss, hss⟩ : ∃ ss, ss = cutD t := ⟨_, rfl⟩
  obtain ⟨b, hb⟩ : ∃ b, b = blockB t := ⟨_, rfl⟩
  rw [← hss] at hl
  simp only [← hss, ← hb] at hS hI
  have hbb : (b != b) = false := by simp
  obtain ⟨z, hz⟩ : ∃ z : Int, z = 1 + (ss.length : Int) := ⟨_, rfl⟩
  have hz0 : ¬ z < 0 := by omega
  have hzz : (z != z) = false := by simp
  have HL := Lib.hid hl
  have HZ := Lib.hid hz
  clear hss hb hl hz hbig ht
  go_enter Try.func3, Try.ntmps3
  go_wp2_with (go_at_call 9; refine (hS _).mono ?_; rintro r w1 ⟨A1, c1, rfl, o1, b1⟩; refine Hid.out ?_)
  refine Lib.hid ?_
  clear hS
  have l1 := fun k hk => (o1.lt k hk).2
  go_wp2_with (go_at_call 10; refine (hI _).mono ?_; rintro r w2 ⟨A2, c2, rfl, o2, b2⟩; refine Hid.out ?_)
  refine Lib.hid ?_
  have o1 := own_bel o1 b2
  have BB := bel_then b1 b2
  have s1 := b1.size
  have hE := eq_strs A2 A1 c2 c1 ss w2 (by have := HL.out; omega) (row_lies o2) (row_lies o1)
  clear b1 b2
  go_wp2_with (go_at_call 11; refine hE.mono ?_; rintro r w3 ⟨rfl, b3⟩; refine Hid.out ?_)
  refine Lib.hid ?_
  have o1 := own_bel o1 b3
  have o2 := own_bel o2 b3
  have BB := bel_then BB b3
  have hM := mark_one _ A2 c2 ss z HZ.out w3 (by have := HL.out; omega) o2
  clear hE b3
  go_wp2_with (go_at_call 12; refine hM.mono ?_; rintro r w4 ⟨rfl, m4, g4⟩; refine Hid.out ?_)
  refine Lib.hid ?_
  have o1 := own_apart o1 o2 l1 g4
  have BB := BB.grown g4 (by have := BB.size; omega) (fun k e => by have := (o2.lt k e).1; omega)
  have hH := held_one _ A2 c2 ss.length z HZ.out w4 (by have := HL.out; omega) m4
  clear hM g4 o2 l1
  go_wp2_with (go_at_call 13; refine hH.mono ?_; rintro r w5 ⟨rfl, b5⟩; refine Hid.out ?_)
  refine Lib.hid ?_
  have o1 := own_bel o1 b5
  have m4 := own_bel m4 b5
  have BB := bel_then BB b5
  clear hH b5
  go_wp2_with (go_at_call 10; refine (hI _).mono ?_; rintro r w6 ⟨A6, c6, rfl, o6, b6⟩; refine Hid.out ?_)
  refine Lib.hid ?_
  have o1 := own_bel o1 b6
  have m4 := own_bel m4 b6
  have BB := bel_then BB b6
  have hE := eq_strs A6 A1 c6 c1 ss w6 (by have := HL.out; omega) (row_lies o6) (row_lies o1)
  clear hI b6
  go_wp2_with (go_at_call 11; refine hE.mono ?_; rintro r w7 ⟨rfl, b7⟩; refine Hid.out ?_)
  refine Lib.hid ?_
  have m4 := own_bel m4 b7
  have BB := bel_then BB b7
  have hH := held_one _ A2 c2 ss.length z HZ.out w7 (by have := HL.out; omega) m4
  clear hE b7 o1 o6
  go_wp2_with (go_at_call 13; refine hH.mono ?_; rintro r w8 ⟨rfl, b8⟩; refine Hid.out ?_)
  refine Lib.hid ?_
  have BB := bel_then BB b8
  clear hH b8 m4
  go_wp2_with fail
  go_ret
  exact ⟨rfl, BB⟩
end Go.Proofs.Ytohfadgbmlfcmaa
