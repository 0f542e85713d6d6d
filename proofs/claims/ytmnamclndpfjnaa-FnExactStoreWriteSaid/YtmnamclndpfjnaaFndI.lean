/-
  The search for a free row, both ways.
-/
import Derived.Test.YtmnamclndpfjnaaFnd
namespace Go.Proofs.Ytmnamclndpfjnaa
open Go.RowKit

set_option maxRecDepth 100000 in
set_option maxHeartbeats 8000000 in
theorem impl_find (A B C : Option Addr) (c e d : Nat) (s : Sp) (f0 : Int) (but : List Int) (w : World) (hn : s.refs.length ≤ 1048576) (hm : s.last.length ≤ 1048576) (hbn : but.length ≤ 1048576) (hA : SpAt w A B s) (hC : Lies w C (intCells but)) :
    Calls Try.prog 113 #[.agg #[.slice A s.refs.length c, .slice B s.last.length e], .int .i64 f0, .slice C but.length d] w fun r w' => r = .returned (.int .i64 (findS s f0 but)) ∧ Below w.heap.size w w' := by
  have BB := bel_new (Below.refl w.heap.size w) (.cells #[.slice A s.refs.length c, .slice B s.last.length e] 25)
  by_cases hs : SpOk s
  · have hU := uses_yes A B c e s _ hs (hA.below BB)
    have hT : findS s f0 but = seek (usOf s) but (fromOf f0) 0 56 := by simp [findS, hs]
    rw [hT]
    have hrow := fun w => i_row f0 w
    have hf := fromOf_in f0
    have hlist := fun n W hW => i_list C d but n W hbn (hC.below (w' := W) hW)
    obtain ⟨U, hUU⟩ : ∃ U, U = usOf s := ⟨_, rfl⟩
    rw [← hUU] at hU ⊢
    obtain ⟨mb, hmb⟩ : ∃ m, m = but.length := ⟨_, rfl⟩
    rw [← hmb] at hlist ⊢
    obtain ⟨n1, hn'⟩ : ∃ n, n = s.refs.length := ⟨_, rfl⟩
    obtain ⟨m1, hm'⟩ : ∃ m, m = s.last.length := ⟨_, rfl⟩
    rw [← hn', ← hm'] at hU BB ⊢
    obtain ⟨f, hff⟩ : ∃ f, f = fromOf f0 := ⟨_, rfl⟩
    rw [← hff] at hf ⊢
    obtain ⟨hf1, hf2⟩ := hf
    obtain ⟨res, hres⟩ : ∃ r, r = seek U but f 0 56 := ⟨_, rfl⟩
    rw [← hres]
    have HRES := Lib.hid hres
    clear hUU hC hbn hmb hres hn' hm' hn hm hA hT hs
    by_cases h8 : 8 ≤ f0 ∧ f0 ≤ 63
    · rw [inB_yes h8] at hrow
      have hfe : f0 = f := by rw [hff]; simp [fromOf, h8]
      subst hfe
      clear h8 hff
      go_enter Try.func113, Try.ntmps113
      go_wp2_with (first
        | (go_at_call 103; refine hU.mono ?_; rintro r w2 ⟨b, hb, rfl, hM, hb2⟩)
        | (go_at_call 91; refine (hrow _).mono ?_; rintro r w' ⟨rfl, rfl⟩))
      go_loopw [9, 10, 21] (fun _ _ i wr => ∃ k : Nat, k ≤ 56 ∧ i = .int .i64 k ∧ res = seek U but f0 k (56 - k) ∧ Below w.heap.size w wr ∧ UMap wr Try.prog 3 b U) (fun _ _ i _ => 56 - (intOf i).toNat)
      case atStart => exact ⟨0, by omega, rfl, HRES.out, bel_then BB hb2, hM⟩
      case round =>
        clear hM hU hb BB hb2
        obtain ⟨k, hk, rfl, hsk, hB, hM⟩ := hrel
        have HSK := Lib.hid hsk
        clear hsk
        by_cases hlt : k < 56
        · have hrin := rowAt_in f0 k
          have hre : rowAt f0 k = 8 + (f0 - 8 + (k : Int)) % 56 := rfl
          obtain ⟨m, hmm⟩ : ∃ m, 56 - k = m + 1 := ⟨56 - k - 1, by omega⟩
          obtain ⟨j, hj⟩ : ∃ j : Int, rowAt f0 k = j := ⟨_, rfl⟩
          have hr : 8 + (f0 - 8 + (k : Int)) % 56 = j := by rw [← hre, hj]
          obtain ⟨x, y, hus⟩ : ∃ x y, useAt U j = (x, y) := ⟨_, _, rfl⟩
          have hl := hM.look2 hus (WalkArith.wf_i64 (by omega))
          have hF := fun w => i_free x y w
          have hlj := fun W hW => hlist j W hW
          have hMa := hM.below (bel_new (Below.refl _ _) (.cells #[.int .i64 x, .int .i64 y] 113))
          have hBa := bel_new hB (.cells #[.int .i64 x, .int .i64 y] 113)
          by_cases h0 : (x, y) = (0, 0)
          · rw [free_yes h0] at hF
            by_cases hin : inL but j = true
            · simp only [hin] at hlj
              have hnx : res = seek U but f0 (k + 1) (56 - (k + 1)) := by rw [HSK.out, hmm, show 56 - (k + 1) = m by omega]; exact seek_next (.inr (by rw [hj]; exact hin))
              have HN := Lib.hid hnx
              clear hnx hin h0 hus hmm hj hre hrin
              go_wp2_with (first
                | (go_at_call 117; refine (hF _).mono ?_; rintro r w' ⟨rfl, rfl⟩)
                | (go_at_call 119; refine (hlj _ hBa).mono ?_; rintro r w' ⟨rfl, rfl⟩))
              go_roundw
              case rel => exact ⟨k + 1, by omega, by go_num, HN.out, hBa, hMa⟩
              case measure => simp [intOf]; omega
            · have hin2 : inL but j = false := by simpa using hin
              simp only [hin2] at hlj
              have hnx : res = j := by rw [HSK.out, hmm, seek_free (by rw [hj, hus]; exact h0) (by rw [hj]; exact hin2), hj]
              have HN := Lib.hid hnx
              clear hnx hin hin2 h0 hus hmm hj hre hrin
              go_wp2_with (first
                | (go_at_call 117; refine (hF _).mono ?_; rintro r w' ⟨rfl, rfl⟩)
                | (go_at_call 119; refine (hlj _ hBa).mono ?_; rintro r w' ⟨rfl, rfl⟩))
              go_ret
              exact ⟨by rw [HN.out]; rfl, hBa⟩
          · rw [free_no h0] at hF
            have hnx : res = seek U but f0 (k + 1) (56 - (k + 1)) := by rw [HSK.out, hmm, show 56 - (k + 1) = m by omega]; exact seek_next (.inl (by rw [hj, hus]; exact h0))
            have HN := Lib.hid hnx
            clear hnx h0 hus hmm hj hre hrin
            go_wp2_with (go_at_call 117; refine (hF _).mono ?_; rintro r w' ⟨rfl, rfl⟩)
            go_roundw
            case rel => exact ⟨k + 1, by omega, by go_num, HN.out, hBa, hMa⟩
            case measure => simp [intOf]; omega
        · have hke : k = 56 := by omega
          subst hke
          have hnx : res = -1 := HSK.out
          have HN := Lib.hid hnx
          clear hnx
          go_wp2_with fail
          go_ret
          exact ⟨by rw [HN.out]; rfl, hB⟩
    · rw [inB_no h8] at hrow
      have hfe : f = 8 := by rw [hff]; simp only [fromOf]; rw [if_neg h8]
      subst hfe
      clear h8 hff
      go_enter Try.func113, Try.ntmps113
      go_wp2_with (first
        | (go_at_call 103; refine hU.mono ?_; rintro r w2 ⟨b, hb, rfl, hM, hb2⟩)
        | (go_at_call 91; refine (hrow _).mono ?_; rintro r w' ⟨rfl, rfl⟩))
      go_loopw [9, 10, 21] (fun _ _ i wr => ∃ k : Nat, k ≤ 56 ∧ i = .int .i64 k ∧ res = seek U but 8 k (56 - k) ∧ Below w.heap.size w wr ∧ UMap wr Try.prog 3 b U) (fun _ _ i _ => 56 - (intOf i).toNat)
      case atStart => exact ⟨0, by omega, rfl, HRES.out, bel_then BB hb2, hM⟩
      case round =>
        clear hM hU hb BB hb2
        obtain ⟨k, hk, rfl, hsk, hB, hM⟩ := hrel
        have HSK := Lib.hid hsk
        clear hsk
        by_cases hlt : k < 56
        · have hrin := rowAt_in 8 k
          have hre : rowAt 8 k = 8 + (8 - 8 + (k : Int)) % 56 := rfl
          obtain ⟨m, hmm⟩ : ∃ m, 56 - k = m + 1 := ⟨56 - k - 1, by omega⟩
          obtain ⟨j, hj⟩ : ∃ j : Int, rowAt 8 k = j := ⟨_, rfl⟩
          have hr : 8 + (k : Int) % 56 = j := by rw [← hj, hre]; simp
          obtain ⟨x, y, hus⟩ : ∃ x y, useAt U j = (x, y) := ⟨_, _, rfl⟩
          have hl := hM.look2 hus (WalkArith.wf_i64 (by omega))
          have hF := fun w => i_free x y w
          have hlj := fun W hW => hlist j W hW
          have hMa := hM.below (bel_new (Below.refl _ _) (.cells #[.int .i64 x, .int .i64 y] 113))
          have hBa := bel_new hB (.cells #[.int .i64 x, .int .i64 y] 113)
          by_cases h0 : (x, y) = (0, 0)
          · rw [free_yes h0] at hF
            by_cases hin : inL but j = true
            · simp only [hin] at hlj
              have hnx : res = seek U but 8 (k + 1) (56 - (k + 1)) := by rw [HSK.out, hmm, show 56 - (k + 1) = m by omega]; exact seek_next (.inr (by rw [hj]; exact hin))
              have HN := Lib.hid hnx
              clear hnx hin h0 hus hmm hj hre hrin
              go_wp2_with (first
                | (go_at_call 117; refine (hF _).mono ?_; rintro r w' ⟨rfl, rfl⟩)
                | (go_at_call 119; refine (hlj _ hBa).mono ?_; rintro r w' ⟨rfl, rfl⟩))
              go_roundw
              case rel => exact ⟨k + 1, by omega, by go_num, HN.out, hBa, hMa⟩
              case measure => simp [intOf]; omega
            · have hin2 : inL but j = false := by simpa using hin
              simp only [hin2] at hlj
              have hnx : res = j := by rw [HSK.out, hmm, seek_free (by rw [hj, hus]; exact h0) (by rw [hj]; exact hin2), hj]
              have HN := Lib.hid hnx
              clear hnx hin hin2 h0 hus hmm hj hre hrin
              go_wp2_with (first
                | (go_at_call 117; refine (hF _).mono ?_; rintro r w' ⟨rfl, rfl⟩)
                | (go_at_call 119; refine (hlj _ hBa).mono ?_; rintro r w' ⟨rfl, rfl⟩))
              go_ret
              exact ⟨by rw [HN.out]; rfl, hBa⟩
          · rw [free_no h0] at hF
            have hnx : res = seek U but 8 (k + 1) (56 - (k + 1)) := by rw [HSK.out, hmm, show 56 - (k + 1) = m by omega]; exact seek_next (.inl (by rw [hj, hus]; exact h0))
            have HN := Lib.hid hnx
            clear hnx h0 hus hmm hj hre hrin
            go_wp2_with (go_at_call 117; refine (hF _).mono ?_; rintro r w' ⟨rfl, rfl⟩)
            go_roundw
            case rel => exact ⟨k + 1, by omega, by go_num, HN.out, hBa, hMa⟩
            case measure => simp [intOf]; omega
        · have hke : k = 56 := by omega
          subst hke
          have hnx : res = -1 := HSK.out
          have HN := Lib.hid hnx
          clear hnx
          go_wp2_with fail
          go_ret
          exact ⟨by rw [HN.out]; rfl, hB⟩
  · have hU := uses_no A B c e s _ hn hm hs (hA.below BB)
    have hT : findS s f0 but = -1 := by simp [findS, hs]
    rw [hT]
    obtain ⟨n1, hn'⟩ : ∃ n, n = s.refs.length := ⟨_, rfl⟩
    obtain ⟨m1, hm'⟩ : ∃ m, m = s.last.length := ⟨_, rfl⟩
    obtain ⟨k1, hk'⟩ : ∃ m, m = but.length := ⟨_, rfl⟩
    rw [← hn', ← hm'] at hU BB
    rw [← hn', ← hm', ← hk']
    clear hn' hm' hk' hn hm hs hA hT hC hbn
    go_enter Try.func113, Try.ntmps113
    go_wp2_with (go_at_call 103; refine hU.mono ?_; rintro r w2 ⟨rfl, hb2⟩)
    go_ret
    exact ⟨rfl, bel_then BB hb2⟩
end Go.Proofs.Ytmnamclndpfjnaa
