/-
  FnStripeWhole's walk.
-/
import Derived.Test.YtohfadgbmlfcmaaDrW
import Derived.Test.YtohfadgbmlfcmaaWhoS
namespace Go.Proofs.Ytohfadgbmlfcmaa
open Go.RowKit

theorem whole_told {ss : List ByteArray} {size : Int} (h : wholeD ss size = true) : ∃ t : ByteArray, blockB t = true ∧ ss = texts3 t.data.toList ∧ size = (t.size : Int) := by
  unfold wholeD at h
  rw [Bool.and_eq_true] at h
  obtain ⟨x0, x1, x2, n, rfl, rfl, h1, h2, f0, f1⟩ := joinD_told h.1
  obtain ⟨hb, hcut, ht⟩ := cut_app h1 h2 f0 f1
  have hj := way_a (x2 := x2) h1 h2 f0 f1
  have he := of_decide_eq_true h.2
  rw [hj, hcut, ← ht] at he
  refine ⟨x0 ++ x1, hb, he, ?_⟩
  rw [app_len, f0, f1]
  have := half_le n
  omega

set_option maxRecDepth 100000 in
set_option maxHeartbeats 8000000 in
theorem walk_swhole (A : Option Addr) (n cap : Nat) (w : World) (hD : Calls Try.prog 23 #[.slice A n cap] w (DrawnW w)) :
    Calls Try.prog 8 #[.slice A n cap] w fun r w' => r = .returned (.bool true) ∧ Below w.heap.size w w' := by
  by_cases hbig : 1048576 < n
  · have hbig2 : (1048576 : Int) < (n : Int) := by omega
    clear hD hbig
    go_enter Try.func8, Try.ntmps8
    go_wp2
    go_ret
    exact ⟨rfl, Below.refl _ _⟩
  have hbig2 : ¬ (1048576 : Int) < (n : Int) := by omega
  clear hbig
  go_enter Try.func8, Try.ntmps8
  go_wp2_with (go_at_call 23; refine hD.mono ?_; rintro r w1 ⟨A1, c1, ss, size, rfl, L1, hsl, hsz, BB⟩; refine Hid.out ?_)
  refine Lib.hid ?_
  clear hD hbig2
  have hI := fun W hL => impl_whole A1 c1 ss size W hsl hsz hL
  have hS := fun W hL => spec_whole A1 c1 ss size W hsl hsz hL
  by_cases hw : wholeD ss size = true
  · rw [hw] at hI hS
    obtain ⟨t, hb, hss, rfl⟩ := whole_told hw
    have hJI : ∀ W (lost : Int), -1 ≤ lost ∧ lost ≤ 1 → Lies W A1 (strCells ss) → Calls Try.prog 17 #[.slice A1 ss.length c1, .int .i64 (t.size : Int), .int .i64 lost] W (Told2 t true W) := fun W lost h hL =>
      (impl_join A1 c1 ss (t.size : Int) lost W hsl hsz hL).mono fun r w' ⟨he, hb2⟩ => ⟨by rw [he, hss, join_cutD hb lost h], hb2⟩
    have hs := (blockB_iff t).1 hb
    have hC := fun w => impl_cut t w (by unfold maxLen; omega)
    have hcd : cutD t = ss := by rw [hss]; exact if_pos hb
    simp only [hcd, hb] at hC
    have hl3 : ss.length ≤ 1048576 := by rw [hss]; show 3 ≤ 1048576; omega
    have hq : (t.toList == t.toList) = true := by simp
    have HL3 := Lib.hid hl3
    clear hs hcd hss hb hw hsl hsz hl3
    go_wp2_with (go_at_call 19; refine (hI _ L1).mono ?_; rintro r w2 ⟨rfl, b2⟩; refine Hid.out ?_)
    refine Lib.hid ?_
    have BB := bel_then BB b2
    have L1 := L1.below b2
    clear b2 hI
    go_wp2_with (go_at_call 18; refine (hS _ L1).mono ?_; rintro r w3 ⟨rfl, b3⟩; refine Hid.out ?_)
    refine Lib.hid ?_
    have BB := bel_then BB b3
    have L1 := L1.below b3
    clear b3 hS
    have hJ := hJI w3 (-1) (by omega) L1
    go_wp2_with (go_at_call 17; refine hJ.mono ?_; rintro r w4 ⟨rfl, b4⟩; refine Hid.out ?_)
    refine Lib.hid ?_
    have BB := bel_then BB b4
    have L1 := L1.below b4
    clear b4 hJ
    have hJ := hJI w4 0 (by omega) L1
    go_wp2_with (go_at_call 17; refine hJ.mono ?_; rintro r w5 ⟨rfl, b5⟩; refine Hid.out ?_)
    refine Lib.hid ?_
    have BB := bel_then BB b5
    have L1 := L1.below b5
    clear b5 hJ
    have hJ := hJI w5 1 (by omega) L1
    go_wp2_with (go_at_call 17; refine hJ.mono ?_; rintro r w6 ⟨rfl, b6⟩; refine Hid.out ?_)
    refine Lib.hid ?_
    have BB := bel_then BB b6
    have L1 := L1.below b6
    clear b6 hJ hJI
    go_wp2_with (go_at_call 10; refine (hC _).mono ?_; rintro r w7 ⟨A7, c7, rfl, o7, b7⟩; refine Hid.out ?_)
    refine Lib.hid ?_
    have BB := bel_then BB b7
    have L1 := L1.below b7
    have hP := pf_texts A7 A1 c7 c1 ss w7 HL3.out (row_lies o7) L1
    clear hC b7 o7
    go_wp2_with (go_at_call 21; refine hP.mono ?_; rintro r w8 ⟨rfl, b8⟩)
    go_ret
    exact ⟨rfl, bel_then BB b8⟩
  · have hwf : wholeD ss size = false := by simpa using hw
    rw [hwf] at hI hS
    clear hw hwf hsl hsz
    go_wp2_with (go_at_call 19; refine (hI _ L1).mono ?_; rintro r w2 ⟨rfl, b2⟩; refine Hid.out ?_)
    refine Lib.hid ?_
    have BB := bel_then BB b2
    have L1 := L1.below b2
    clear b2 hI
    go_wp2_with (go_at_call 18; refine (hS _ L1).mono ?_; rintro r w3 ⟨rfl, b3⟩)
    go_ret
    exact ⟨rfl, bel_then BB b3⟩
end Go.Proofs.Ytohfadgbmlfcmaa
