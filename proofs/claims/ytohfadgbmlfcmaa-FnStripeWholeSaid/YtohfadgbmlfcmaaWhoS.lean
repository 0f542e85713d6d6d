/-
  StripeWhole of the model; FnExactStripeWhole's walk.
-/
import Derived.Test.YtohfadgbmlfcmaaWhoI
namespace Go.Proofs.Ytohfadgbmlfcmaa
open Go.RowKit

set_option maxRecDepth 100000 in
set_option maxHeartbeats 2000000 in
theorem spec_whole (A : Option Addr) (c : Nat) (ss : List ByteArray) (size : Int) (w : World) (hn : ss.length ≤ maxLen) (hs : ∀ s ∈ ss, s.size ≤ maxLen) (hA : Lies w A (strCells ss)) :
    Calls Try.prog 18 #[.slice A ss.length c, .int .i64 size] w fun r w' => r = .returned (.bool (wholeD ss size)) ∧ Below w.heap.size w w' := by
  have hJ := spec_join A c ss size (-1) w hn hs hA
  by_cases hok : (joinD ss size (-1)).2 = true
  · obtain ⟨x0, x1, x2, n, rfl, rfl, h1, h2, f0, f1⟩ := joinD_told hok
    obtain ⟨hb, hcut, ht3⟩ := cut_app h1 h2 f0 f1
    have hj := way_a (x2 := x2) h1 h2 f0 f1
    obtain ⟨p, hp⟩ : ∃ p, p = strOf (mixL x0.data.toList x1.data.toList (half n)) := ⟨_, rfl⟩
    have hw : wholeD [x0, x1, x2] (n : Int) = decide (x2 = p) := by
      unfold wholeD
      rw [hj, hcut, ← hp]
      show decide _ = decide _
      simp
    rw [hw]
    have hJ2 : Calls Try.prog 15 #[.slice A 3 c, .int .i64 (n : Int), .int .i64 (-1)] w (Told2 (x0 ++ x1) true w) := hJ.mono fun r w' ⟨he, hb2⟩ => ⟨by rw [he, hj], hb2⟩
    have hC := fun w => l4_cut (x0 ++ x1) w (by rw [app_len]; have := half_le n; omega)
    rw [ht3, ← hp] at hC
    obtain ⟨b, off, rfl, hT⟩ := Three.of hA
    obtain ⟨t, ht⟩ : ∃ t, t = x0 ++ x1 := ⟨_, rfl⟩
    rw [← ht] at hJ2 hC
    clear hw hj hcut hb f0 f1 h1 h2 hok hJ hs hn ht3 ht hA
    show Calls Try.prog 18 #[.slice (some ⟨b, off, none⟩) 3 c, .int .i64 (n : Int)] w _
    by_cases hxy : x2 = p
    · have hq : (x2.toList == p.toList) = true := by rw [hxy]; simp
      rw [decide_eq_true hxy]
      clear hxy hp
      go_enter Try.func18, Try.ntmps18
      go_wp2_with (go_at_call 15; refine hJ2.mono ?_; rintro r w1 ⟨rfl, b1⟩; refine Hid.out ?_)
      refine Lib.hid ?_
      have hT1 := hT.below b1
      have hTd : Three w1.drew b off x0 x1 x2 := hT1
      obtain ⟨_, m0, m1, m2⟩ := id hTd
      have hCd := hC w1.drew
      go_upto_region 2 with fail
      first
        | go_region_with (go_at_call 25; refine hCd.mono ?_; rintro r w2 ⟨A2, c2, rfl, o2, b2⟩; obtain ⟨b2', off2, rfl, hlt2, z2⟩ := (row_lies o2).str 2 (by simp); obtain ⟨_, n0, n1, n2⟩ := hTd.below b2)
        | fail "region"
      all_goals go_wp2_with fail
      all_goals go_ret
      all_goals exact ⟨rfl, bel_then b1.drew b2⟩
    · have hq : (x2.toList == p.toList) = false := by
        have : ¬ x2.toList = p.toList := fun e => hxy (bytes_inj (by rw [← ByteArray.toList_eq, ← ByteArray.toList_eq, e]))
        simpa using this
      rw [decide_eq_false hxy]
      clear hxy hp
      go_enter Try.func18, Try.ntmps18
      go_wp2_with (go_at_call 15; refine hJ2.mono ?_; rintro r w1 ⟨rfl, b1⟩; refine Hid.out ?_)
      refine Lib.hid ?_
      have hT1 := hT.below b1
      have hTd : Three w1.drew b off x0 x1 x2 := hT1
      obtain ⟨_, m0, m1, m2⟩ := id hTd
      have hCd := hC w1.drew
      go_upto_region 2 with fail
      first
        | go_region_with (go_at_call 25; refine hCd.mono ?_; rintro r w2 ⟨A2, c2, rfl, o2, b2⟩; obtain ⟨b2', off2, rfl, hlt2, z2⟩ := (row_lies o2).str 2 (by simp); obtain ⟨_, n0, n1, n2⟩ := hTd.below b2)
        | fail "region"
      all_goals go_wp2_with fail
      all_goals go_ret
      all_goals exact ⟨rfl, bel_then b1.drew b2⟩
  · have hf : (joinD ss size (-1)).2 = false := by simpa using hok
    rw [whole_no hf]
    have hJ2 : Calls Try.prog 15 #[.slice A ss.length c, .int .i64 size, .int .i64 (-1)] w (Told2 (joinD ss size (-1)).1 false w) := hJ.mono fun r w' ⟨he, hb2⟩ => ⟨by rw [he, hf], hb2⟩
    obtain ⟨t, ht⟩ : ∃ t, t = (joinD ss size (-1)).1 := ⟨_, rfl⟩
    rw [← ht] at hJ2
    clear hJ hok hf hs hn hA ht
    go_enter Try.func18, Try.ntmps18
    go_wp2_with (go_at_call 15; refine hJ2.mono ?_; rintro r w1 ⟨rfl, b1⟩)
    go_quiet (fail)
    go_wp2_with fail
    go_ret
    exact ⟨rfl, below_drewN b1 _⟩

set_option maxRecDepth 100000 in
set_option maxHeartbeats 8000000 in
theorem walk_ewhole (A : Option Addr) (c : Nat) (ss : List ByteArray) (size : Int) (w : World) (hn : ss.length ≤ maxLen) (hs : ∀ s ∈ ss, s.size ≤ maxLen) (hA : Lies w A (strCells ss)) :
    Calls Try.prog 5 #[.slice A ss.length c, .int .i64 size] w fun r w' => r = .returned (.bool true) ∧ Below w.heap.size w w' := by
  have hZ := sz_strs A c ss 1048576 w (by omega) (by omega) hn hs hA
  go_enter Try.func5, Try.ntmps5
  go_wp2_with (go_at_call 14; refine hZ.mono ?_; rintro r w1 ⟨z, rfl, hb1, hz⟩; refine Hid.out ?_)
  refine Lib.hid ?_
  by_cases hzz : z < 0
  · clear hZ hz hs hn hA
    go_wp2_with fail
    go_ret
    exact ⟨rfl, hb1⟩
  have hz := hz (by omega)
  have hl : ss.length ≤ 1048576 := by omega
  have hT := fun W hW => to_strs A c ss W hl (hA.below (w' := W) hW)
  have hS := fun A c W hW => spec_whole A c ss size W hn hs hW
  have hI := fun A c W hW => impl_whole A c ss size W hn hs hW
  obtain ⟨b, hb⟩ : ∃ t, t = wholeD ss size := ⟨_, rfl⟩
  simp only [← hb] at hS hI
  have hq2 : (b != b) = false := by simp
  have BB := hb1
  have HL := Lib.hid hl
  clear hb hZ hz hs hn hb1 hl
  go_wp2_with (go_at_call 16; refine (hT _ BB).mono ?_; rintro r w2 ⟨g2, rfl, o2, b2⟩; refine Hid.out ?_)
  refine Lib.hid ?_
  have BB := bel_then BB b2
  have hS2 := hS _ ss.length w2 (row_lies o2)
  clear b2 o2 hS
  go_wp2_with (go_at_call 18; refine hS2.mono ?_; rintro r w3 ⟨rfl, b3⟩; refine Hid.out ?_)
  refine Lib.hid ?_
  have BB := bel_then BB b3
  clear b3 hS2
  go_wp2_with (go_at_call 16; refine (hT _ BB).mono ?_; rintro r w4 ⟨g4, rfl, o4, b4⟩; refine Hid.out ?_)
  refine Lib.hid ?_
  have BB := bel_then BB b4
  have hI2 := hI _ ss.length w4 (row_lies o4)
  clear b4 hI
  go_wp2_with (go_at_call 19; refine hI2.mono ?_; rintro r w5 ⟨rfl, b5⟩; refine Hid.out ?_)
  refine Lib.hid ?_
  have BB := bel_then BB b5
  have o4 := own_bel o4 b5
  clear b5 hI2
  go_wp2_with (go_at_call 16; refine (hT _ BB).mono ?_; rintro r w6 ⟨g6, rfl, o6, b6⟩; refine Hid.out ?_)
  refine Lib.hid ?_
  have BB := bel_then BB b6
  have o4 := own_bel o4 b6
  have hE := eq_strs _ _ ss.length ss.length ss w6 HL.out (row_lies o4) (row_lies o6)
  clear b6 hT
  go_wp2_with (go_at_call 11; refine hE.mono ?_; rintro r w7 ⟨rfl, b7⟩)
  go_ret
  exact ⟨rfl, bel_then BB b7⟩
end Go.Proofs.Ytohfadgbmlfcmaa
