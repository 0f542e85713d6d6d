/-
  FnExactStripeJoin's walk.
-/
import Derived.Test.YtohfadgbmlfcmaaJoinM
import Derived.Test.YtohfadgbmlfcmaaJoinW
import Derived.Test.YtohfadgbmlfcmaaWCut
namespace Go.Proofs.Ytohfadgbmlfcmaa
open Go.RowKit

/-- A text and whether it went well. -/
def Told2 (t : ByteArray) (b : Bool) (w : World) (r : Ending) (w' : World) : Prop := r = .returned (.tuple #[.string t, .bool b]) ∧ Below w.heap.size w w'

set_option maxRecDepth 100000 in
set_option maxHeartbeats 8000000 in
theorem walk_ejoin (A : Option Addr) (c : Nat) (ss : List ByteArray) (size lost : Int) (w : World) (hn : ss.length ≤ maxLen) (hs : ∀ s ∈ ss, s.size ≤ maxLen) (hA : Lies w A (strCells ss)) :
    Calls Try.prog 4 #[.slice A ss.length c, .int .i64 size, .int .i64 lost] w fun r w' => r = .returned (.bool true) ∧ Below w.heap.size w w' := by
  have hZ := sz_strs A c ss 1048576 w (by omega) (by omega) hn hs hA
  go_enter Try.func4, Try.ntmps4
  go_wp2_with (go_at_call 14; refine hZ.mono ?_; rintro r w1 ⟨z, rfl, hb1, hz⟩; refine Hid.out ?_)
  refine Lib.hid ?_
  by_cases hzz : z < 0
  · clear hZ hz hs hn hA
    go_wp2_with fail
    go_ret
    exact ⟨rfl, hb1⟩
  have hz := hz (by omega)
  have hl : ss.length ≤ 1048576 := by omega
  have hT := fun W hW => to_strs A c ss W hl (hA.below (w' := W) hW)
  obtain ⟨t, ht⟩ : ∃ t, t = (joinD ss size lost).1 := ⟨_, rfl⟩
  obtain ⟨b, hb⟩ : ∃ t, t = (joinD ss size lost).2 := ⟨_, rfl⟩
  have hS : ∀ A c W, Lies W A (strCells ss) → Calls Try.prog 15 #[.slice A ss.length c, .int .i64 size, .int .i64 lost] W (Told2 t b W) := fun A c W hW => (spec_join A c ss size lost W hn hs hW).mono fun r w' ⟨he, hb2⟩ => ⟨by rw [he, ht, hb], hb2⟩
  have hI : ∀ A c W, Lies W A (strCells ss) → Calls Try.prog 17 #[.slice A ss.length c, .int .i64 size, .int .i64 lost] W (Told2 t b W) := fun A c W hW => (impl_join A c ss size lost W hn hs hW).mono fun r w' ⟨he, hb2⟩ => ⟨by rw [he, ht, hb], hb2⟩
  have hq1 : (!t.toList == t.toList) = false := by simp
  have hq2 : (b != b) = false := by simp
  have BB := hb1
  have HL := Lib.hid hl
  clear ht hb hZ hz hs hn hb1 hl
  go_wp2_with (go_at_call 16; refine (hT _ BB).mono ?_; rintro r w2 ⟨g2, rfl, o2, b2⟩; refine Hid.out ?_)
  refine Lib.hid ?_
  have BB := bel_then BB b2
  have hS2 := hS _ ss.length w2 (row_lies o2)
  clear b2 o2 hS
  go_wp2_with (go_at_call 15; refine hS2.mono ?_; rintro r w3 ⟨rfl, b3⟩; refine Hid.out ?_)
  refine Lib.hid ?_
  have BB := bel_then BB b3
  clear b3 hS2
  go_wp2_with (go_at_call 16; refine (hT _ BB).mono ?_; rintro r w4 ⟨g4, rfl, o4, b4⟩; refine Hid.out ?_)
  refine Lib.hid ?_
  have BB := bel_then BB b4
  have hI2 := hI _ ss.length w4 (row_lies o4)
  clear b4 hI
  go_wp2_with (go_at_call 17; refine hI2.mono ?_; rintro r w5 ⟨rfl, b5⟩; refine Hid.out ?_)
  refine Lib.hid ?_
  have BB := bel_then BB b5
  have o4 := own_bel o4 b5
  clear b5 hI2
  go_wp2_with (go_at_call 16; refine (hT _ BB).mono ?_; rintro r w6 ⟨g6, rfl, o6, b6⟩; refine Hid.out ?_)
  refine Lib.hid ?_
  have BB := bel_then BB b6
  have o4 := own_bel o4 b6
  have hE := eq_strs _ _ ss.length ss.length ss w6 HL.out (row_lies o4) (row_lies o6)
  clear b6 hT
  go_wp2_with (go_at_call 11; refine hE.mono ?_; rintro r w7 ⟨rfl, b7⟩)
  go_ret
  exact ⟨rfl, bel_then BB b7⟩
end Go.Proofs.Ytohfadgbmlfcmaa
