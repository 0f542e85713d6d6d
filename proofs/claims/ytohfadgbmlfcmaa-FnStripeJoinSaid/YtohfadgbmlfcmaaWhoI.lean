/-
  StripeWhole, the model's and the program's.
-/
import Derived.Test.YtohfadgbmlfcmaaWJoin
namespace Go.Proofs.Ytohfadgbmlfcmaa
open Go.RowKit

/-- Whether columns are those of some block. -/
def wholeD (ss : List ByteArray) (size : Int) : Bool := (joinD ss size (-1)).2 && decide (ss = cutD (joinD ss size (-1)).1)
theorem take_more (ss tt : List ByteArray) (k : Nat) (h1 : k < ss.length) (h2 : k < tt.length) (h : ss.take k = tt.take k) (he : ss[k] = tt[k]) : ss.take (k + 1) = tt.take (k + 1) := by
  rw [List.take_succ_eq_append_getElem h1, List.take_succ_eq_append_getElem h2, h, he]

set_option maxRecDepth 100000 in
set_option maxHeartbeats 2000000 in
theorem slices_equal (A B : Option Addr) (ca cb : Nat) (ss tt : List ByteArray) (w : World) (hn : ss.length = tt.length) (hl : ss.length ≤ 1000) (hA : Lies w A (strCells ss)) (hB : Lies w B (strCells tt)) :
    Calls Try.prog 34 #[.slice A ss.length ca, .slice B tt.length cb] w fun r w' => r = .returned (.bool (decide (ss = tt))) ∧ Below w.heap.size w w' := by
  have hq0 : ((ss.length : Int) != (tt.length : Int)) = false := by rw [hn]; simp
  have HN := Lib.hid hn
  clear hn
  go_enter Try.func34, Try.ntmps34
  go_wp2_with fail
  go_loopw [13] (fun i wr => ∃ k : Nat, k ≤ ss.length ∧ i = .int .i64 (k : Int) ∧ ss.take k = tt.take k ∧ Below w.heap.size w wr) (fun i _ => ss.length - (intOf i).toNat)
  case atStart => exact ⟨0, Nat.zero_le _, rfl, rfl, Below.refl _ _⟩
  case round =>
    obtain ⟨k, hk, rfl, htk, hb⟩ := hrel
    have HT := Lib.hid htk
    clear htk
    by_cases hlt : k < ss.length
    · have hlt2 : k < tt.length := by rw [← HN.out]; exact hlt
      obtain ⟨b, off, rfl, hlb, hck⟩ := (hA.below hb).str k hlt
      obtain ⟨b2, off2, rfl, hlb2, hck2⟩ := (hB.below hb).str k hlt2
      have hm := take_more ss tt k hlt hlt2 HT.out
      have hne : ss[k] ≠ tt[k] → ss ≠ tt := fun h e => h (by simp only [e])
      obtain ⟨x, hx⟩ : ∃ x, x = ss[k] := ⟨_, rfl⟩
      obtain ⟨y, hy⟩ : ∃ x, x = tt[k] := ⟨_, rfl⟩
      rw [← hx] at hck
      rw [← hy] at hck2
      rw [← hx, ← hy] at hm hne
      have hlt' : (k : Int) < (ss.length : Int) := by omega
      have hlt2' : (k : Int) < (tt.length : Int) := by omega
      have HM := Lib.hid hm
      have HE := Lib.hid hne
      clear hx hy hm hne
      by_cases hxy : x = y
      · subst hxy
        have hq : (!x.toList == x.toList) = false := by simp
        go_wp2_with fail
        go_quiet (fail)
        go_wp2
        go_roundw
        case rel => exact ⟨k + 1, by omega, by go_num, HM.out (by first | rfl | trivial), below_drewN hb _⟩
        case measure => simp [intOf]; omega
      · have hq : (!x.toList == y.toList) = true := by
          have : ¬ x.toList = y.toList := fun e => hxy (bytes_inj (by rw [← ByteArray.toList_eq, ← ByteArray.toList_eq, e]))
          simpa using this
        have HXY := Lib.hid hxy
        clear hxy
        go_wp2_with fail
        go_quiet (fail)
        go_wp2
        go_ret
        exact ⟨by rw [decide_eq_false (HE.out HXY.out)]; rfl, below_drewN hb _⟩
    · have hke : k = ss.length := by omega
      have hst : ss = tt := by
        have h := HT.out
        rw [hke, List.take_length, HN.out, List.take_length] at h
        exact h
      have HS := Lib.hid hst
      clear hst hke
      go_wp2
      go_ret
      exact ⟨by rw [decide_eq_true HS.out]; rfl, hb⟩

theorem joinD_told {ss : List ByteArray} {size : Int} (h : (joinD ss size (-1)).2 = true) : ∃ (x0 x1 x2 : ByteArray) (n : Nat), ss = [x0, x1, x2] ∧ size = (n : Int) ∧ 1 ≤ n ∧ n ≤ 128 ∧ x0.size = half n ∧ x1.size = n - half n := by
  by_cases hc : ss.length = 3 ∧ (1 ≤ size ∧ size ≤ 128) ∧ (-1 ≤ (-1 : Int) ∧ (-1 : Int) ≤ 1)
  · obtain ⟨h3, ⟨h1, h2⟩, _⟩ := hc
    match ss, h3 with
    | [x0, x1, x2], _ =>
      obtain ⟨n, rfl⟩ : ∃ n : Nat, size = (n : Int) := ⟨size.toNat, by omega⟩
      refine ⟨x0, x1, x2, n, rfl, rfl, by omega, by omega, ?_⟩
      by_cases hf : x0.size = half n ∧ x1.size = n - half n
      · exact hf
      · rw [way_a_no (by omega) (by omega) hf] at h
        exact absurd h (by simp)
  · rw [joinD_no hc] at h
    exact absurd h (by simp)
theorem app_len (x y : ByteArray) : (x ++ y).size = x.size + y.size := by simp
/-- The columns of what the first two are. -/
theorem cut_app {x0 x1 : ByteArray} {n : Nat} (h1 : 1 ≤ n) (h2 : n ≤ 128) (f0 : x0.size = half n) (f1 : x1.size = n - half n) :
    blockB (x0 ++ x1) = true ∧ cutD (x0 ++ x1) = [x0, x1, strOf (mixL x0.data.toList x1.data.toList (half n))] ∧ texts3 (x0 ++ x1).data.toList = [x0, x1, strOf (mixL x0.data.toList x1.data.toList (half n))] := by
  have hh := half_le n
  have hb : blockB (x0 ++ x1) = true := (blockB_iff _).2 (by rw [app_len]; omega)
  have ha : fitA x0.data.toList n := by unfold fitA; rw [toL_len]; exact f0
  have hf : fitB x1.data.toList n := by unfold fitB; rw [toL_len]; exact f1
  obtain ⟨e1, e2, e3⟩ := cut_of ha hf
  have et : texts3 (x0 ++ x1).data.toList = [x0, x1, strOf (mixL x0.data.toList x1.data.toList (half n))] := by
    unfold texts3
    rw [ByteArray.data_append, Array.toList_append, e1, e2, e3]
    have s0 : strOf x0.data.toList = x0 := bytes_inj (strOf_toList _)
    have s1 : strOf x1.data.toList = x1 := bytes_inj (strOf_toList _)
    rw [s0, s1]
  refine ⟨hb, ?_, et⟩
  unfold cutD
  rw [if_pos hb, et]
theorem whole_no {ss : List ByteArray} {size : Int} (h : (joinD ss size (-1)).2 = false) : wholeD ss size = false := by
  unfold wholeD
  rw [h]
  rfl

set_option maxRecDepth 100000 in
set_option maxHeartbeats 2000000 in
theorem impl_whole (A : Option Addr) (c : Nat) (ss : List ByteArray) (size : Int) (w : World) (hn : ss.length ≤ maxLen) (hs : ∀ s ∈ ss, s.size ≤ maxLen) (hA : Lies w A (strCells ss)) :
    Calls Try.prog 19 #[.slice A ss.length c, .int .i64 size] w fun r w' => r = .returned (.bool (wholeD ss size)) ∧ Below w.heap.size w w' := by
  have hJ := impl_join A c ss size (-1) w hn hs hA
  by_cases hok : (joinD ss size (-1)).2 = true
  · obtain ⟨x0, x1, x2, n, rfl, rfl, h1, h2, f0, f1⟩ := joinD_told hok
    obtain ⟨hb, hcut, _⟩ := cut_app h1 h2 f0 f1
    have hj := way_a (x2 := x2) h1 h2 f0 f1
    have hw : wholeD [x0, x1, x2] (n : Int) = decide ([x0, x1, x2] = cutD (x0 ++ x1)) := by
      unfold wholeD
      rw [hj]
      rfl
    rw [hw]
    have hJ2 : Calls Try.prog 17 #[.slice A [x0, x1, x2].length c, .int .i64 (n : Int), .int .i64 (-1)] w (Told2 (x0 ++ x1) true w) := hJ.mono fun r w' ⟨he, hb2⟩ => ⟨by rw [he, hj], hb2⟩
    have hC := fun w => impl_cut (x0 ++ x1) w (by rw [app_len]; have := half_le n; unfold maxLen; omega)
    rw [hb] at hC
    have hlen : [x0, x1, x2].length = (cutD (x0 ++ x1)).length := by rw [hcut]; rfl
    have hl3 : [x0, x1, x2].length ≤ 1000 := by simp
    obtain ⟨tt, htt⟩ : ∃ tt, tt = cutD (x0 ++ x1) := ⟨_, rfl⟩
    obtain ⟨t, ht⟩ : ∃ t, t = x0 ++ x1 := ⟨_, rfl⟩
    obtain ⟨ss, hss⟩ : ∃ ss, ss = [x0, x1, x2] := ⟨_, rfl⟩
    rw [← htt] at hlen ⊢
    rw [← hss] at hlen hl3 hA hJ2 ⊢
    simp only [← htt] at hC
    rw [← ht] at hJ2 hC
    have HL := Lib.hid hlen
    have HL3 := Lib.hid hl3
    clear hlen hl3 htt ht hss hw hj hcut hb f0 f1 h1 h2 hok hJ hs hn
    go_enter Try.func19, Try.ntmps19
    go_wp2_with (go_at_call 17; refine hJ2.mono ?_; rintro r w1 ⟨rfl, b1⟩; refine Hid.out ?_)
    refine Lib.hid ?_
    go_wp2_with (go_at_call 10; refine (hC _).mono ?_; rintro r w2 ⟨A2, c2, rfl, o2, b2⟩; refine Hid.out ?_)
    refine Lib.hid ?_
    have BB := bel_then b1 b2
    have hE := slices_equal A A2 c c2 ss tt w2 HL.out HL3.out (hA.below BB) (row_lies o2)
    clear hC hJ2 b1 b2 o2 hA
    go_wp2_with (go_at_call 34; refine hE.mono ?_; rintro r w3 ⟨rfl, b3⟩)
    go_ret
    exact ⟨rfl, bel_then BB b3⟩
  · have hf : (joinD ss size (-1)).2 = false := by simpa using hok
    rw [whole_no hf]
    have hJ2 : Calls Try.prog 17 #[.slice A ss.length c, .int .i64 size, .int .i64 (-1)] w (Told2 (joinD ss size (-1)).1 false w) := hJ.mono fun r w' ⟨he, hb2⟩ => ⟨by rw [he, hf], hb2⟩
    obtain ⟨t, ht⟩ : ∃ t, t = (joinD ss size (-1)).1 := ⟨_, rfl⟩
    rw [← ht] at hJ2
    clear hJ hok hf hs hn hA ht
    go_enter Try.func19, Try.ntmps19
    go_wp2_with (go_at_call 17; refine hJ2.mono ?_; rintro r w1 ⟨rfl, b1⟩)
    go_ret
    exact ⟨rfl, b1⟩
end Go.Proofs.Ytohfadgbmlfcmaa
