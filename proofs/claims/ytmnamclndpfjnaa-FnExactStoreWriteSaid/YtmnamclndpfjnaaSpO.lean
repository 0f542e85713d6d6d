/-
  The model's word on whether space is valid.
-/
import Derived.Test.YtmnamclndpfjnaaUses
namespace Go.Proofs.Ytmnamclndpfjnaa
open Go.RowKit

theorem s_in' (n lo hi : Int) (b : Bool) (h : inB n lo hi = b) (w : World) : Calls Try.prog 49 #[.int .i64 n, .int .i64 lo, .int .i64 hi] w fun e w' => e = .returned (.bool b) ∧ w' = w := (s_in n lo hi w).mono fun _ _ ⟨h1, h2⟩ => ⟨by rw [h1, h], h2.symm⟩
theorem s_row' (n : Int) (b : Bool) (h : inB n 8 63 = b) (w : World) : Calls Try.prog 84 #[.int .i64 n] w fun e w' => e = .returned (.bool b) ∧ w' = w := (s_row n w).mono fun _ _ ⟨h1, h2⟩ => ⟨by rw [h1, h], h2.symm⟩

set_option maxRecDepth 100000 in
set_option maxHeartbeats 8000000 in
theorem spec_ok (A B : Option Addr) (c e : Nat) (s : Sp) (w : World) (hn : s.refs.length ≤ 1048576) (hm : s.last.length ≤ 1048576) (hA : SpAt w A B s) :
    Calls Try.prog 48 #[.agg #[.slice A s.refs.length c, .slice B s.last.length e]] w fun r w' => r = .returned (.bool (okS s)) ∧ Below w.heap.size w w' := by
  by_cases h1 : s.refs.length = 64
  · by_cases h2 : s.last.length = 64
    · obtain ⟨hA1, hA2⟩ := hA
      have hq1 : ((64 : Int) != 64) = false := by decide
      have hyes : (∀ i, i < 64 → rowOk i ((usOf s).getD i (0, 0))) → okS s = true := fun h => okS_yes ⟨h1, h2, h⟩
      have hno : ∀ i, i < 64 → ¬ rowOk i ((usOf s).getD i (0, 0)) → okS s = false := fun i hi h => okS_no (fun h3 => h (h3.2.2 i hi))
      have hat : ∀ k, k < 64 → (usOf s).getD k (0, 0) = (s.refs.getD k 0, s.last.getD k 0) := fun k hk => usOf_at h1 h2 k hk
      obtain ⟨rs, hrs⟩ : ∃ rs, rs = s.refs := ⟨_, rfl⟩
      obtain ⟨ls, hls⟩ : ∃ ls, ls = s.last := ⟨_, rfl⟩
      obtain ⟨U, hUU⟩ : ∃ U, U = usOf s := ⟨_, rfl⟩
      obtain ⟨q, hq⟩ : ∃ q, q = okS s := ⟨_, rfl⟩
      rw [← hUU, ← hq] at hyes
      rw [← hUU, ← hq] at hno
      rw [← hUU, ← hrs, ← hls] at hat
      rw [← hrs] at hA1 h1
      rw [← hls] at hA2 h2
      rw [← hrs, ← hls, ← hq]
      clear hn hm hrs hls hUU hq
      have HAT := Lib.hid hat
      have HY := Lib.hid hyes
      have HNO := Lib.hid hno
      have H1 := Lib.hid h1
      have H2 := Lib.hid h2
      rw [h1, h2]
      clear hat hyes hno h1 h2
      have b0 := B2.new w 25 (.slice A 64 c) (.slice B 64 e)
      go_enter Try.func48, Try.ntmps48
      go_wp2
      go_loopw [3] (fun i wr => ∃ k : Nat, k ≤ 64 ∧ i = .int .i64 k ∧ (∀ j, j < k → rowOk j (U.getD j (0, 0))) ∧ Below w.heap.size w wr ∧ B2 wr w.heap.size 25 (.slice A 64 c) (.slice B 64 e)) (fun i _ => 64 - (intOf i).toNat)
      case atStart => exact ⟨0, by omega, rfl, fun j hj => absurd hj (Nat.not_lt_zero j), bel_new (Below.refl _ _) _, b0⟩
      case round =>
        obtain ⟨k, hk, rfl, hj, hB, hb⟩ := hrel
        have HJ := Lib.hid hj
        clear b0 hj
        by_cases hlt : k < 64
        · obtain ⟨b1, o1, rfl, hl1, hc1⟩ := (hA1.below hB).int k (by have := H1.out; omega)
          obtain ⟨b2, o2, rfl, hl2, hc2⟩ := (hA2.below hB).int k (by have := H2.out; omega)
          have hu := HAT.out k hlt
          rw [List.getD_eq_getElem?_getD, List.getD_eq_getElem?_getD, List.getD_eq_getElem?_getD, List.getElem?_eq_getElem (by have := H1.out; omega : k < rs.length), List.getElem?_eq_getElem (by have := H2.out; omega : k < ls.length)] at hu
          obtain ⟨x, hx⟩ : ∃ x, x = rs[k]'(by have := H1.out; omega) := ⟨_, rfl⟩
          obtain ⟨y, hy⟩ : ∃ y, y = ls[k]'(by have := H2.out; omega) := ⟨_, rfl⟩
          rw [← hx] at hc1
          rw [← hy] at hc2
          simp only [← hx, ← hy, Option.getD_some] at hu
          have hu2 : U.getD k (0, 0) = (x, y) := by rw [List.getD_eq_getElem?_getD]; exact hu
          have hro : rowOk k (U.getD k (0, 0)) ↔ ((x = 0 ∧ y = 0) ∨ (8 ≤ k ∧ 1 ≤ x ∧ x ≤ y ∧ y ≤ 900)) := by rw [hu2]; exact Iff.rfl
          have hwl := hb.lt
          obtain ⟨⟨x0, x1⟩, _, _⟩ := hb.cells
          have hlt' : (k : Int) < 64 := by omega
          have HR := Lib.hid hro
          clear hx hy hu hu2 hA1 hA2 hro
          by_cases ha : inB y 0 900 = true
          · have hy9 : 0 ≤ y ∧ y ≤ 900 := by simpa [inB] using ha
            have hS := fun w => s_in' y 0 900 true ha w
            by_cases hbb : inB x 0 y = true
            · have hx9 : 0 ≤ x ∧ x ≤ y := by simpa [inB] using hbb
              have hT := fun w => s_in' x 0 y true hbb w
              by_cases hz : x = 0
              · have hz1 : (x == 0) = true := by simpa using hz
                by_cases hyz : y = 0
                · have hz2 : (y != 0) = false := by simpa using hyz
                  have hz3 : ¬ 0 < x := by omega
                  have hz4 : decide (0 < x) = false := by simpa using hz3
                  have hok : rowOk k (U.getD k (0, 0)) := HR.out.2 (.inl ⟨hz, hyz⟩)
                  have HO := Lib.hid hok
                  by_cases hrw : inB (k : Int) 8 63 = true
                  · have hR := fun w => s_row' (k : Int) true hrw w
                    clear hz hyz hok hy9 hx9 ha hbb hrw
                    go_wp2_with fail
                    go_quiet ((first | (go_at_call 49; with_reducible exact Calls.quiet_of_same (hS _)) | (go_at_call 49; exact Calls.quiet_of_same (hT _)) | (go_at_call 84; exact Calls.quiet_of_same (hR _))))
                    go_wp2_with fail
                    go_roundw
                    case rel => exact ⟨k + 1, by omega, by go_num, fun j hj => by
                      rcases Nat.lt_succ_iff_lt_or_eq.1 hj with h | h
                      · exact HJ.out j h
                      · rw [h]; exact HO.out, below_drewN hB _, hb⟩
                    case measure => simp [intOf]; omega
                  · have hrw2 : inB (k : Int) 8 63 = false := by simpa using hrw
                    have hR := fun w => s_row' (k : Int) false hrw2 w
                    clear hz hyz hok hy9 hx9 ha hbb hrw hrw2
                    go_wp2_with fail
                    go_quiet ((first | (go_at_call 49; with_reducible exact Calls.quiet_of_same (hS _)) | (go_at_call 49; exact Calls.quiet_of_same (hT _)) | (go_at_call 84; exact Calls.quiet_of_same (hR _))))
                    go_wp2_with fail
                    go_roundw
                    case rel => exact ⟨k + 1, by omega, by go_num, fun j hj => by
                      rcases Nat.lt_succ_iff_lt_or_eq.1 hj with h | h
                      · exact HJ.out j h
                      · rw [h]; exact HO.out, below_drewN hB _, hb⟩
                    case measure => simp [intOf]; omega
                · have hz2 : (y != 0) = true := by simpa using hyz
                  have hbad : ¬ rowOk k (U.getD k (0, 0)) := fun h => by rcases HR.out.1 h with h | h <;> omega
                  have HQ := Lib.hid (HNO.out k hlt hbad)
                  clear hz hyz hbad hy9 hx9 ha hbb
                  go_wp2_with fail
                  go_quiet ((first | (go_at_call 49; with_reducible exact Calls.quiet_of_same (hS _)) | (go_at_call 49; exact Calls.quiet_of_same (hT _)) | (go_at_call 84; exact Calls.quiet_of_same (hR _))))
                  go_wp2_with fail
                  go_ret
                  exact ⟨by rw [HQ.out]; rfl, below_drewN hB _⟩
              · have hz1 : (x == 0) = false := by simpa using hz
                have hz3 : 0 < x := by omega
                have hz4 : decide (0 < x) = true := by simpa using hz3
                by_cases hrw : inB (k : Int) 8 63 = true
                · have hr9 : 8 ≤ (k : Int) ∧ (k : Int) ≤ 63 := by simpa [inB] using hrw
                  have hok : rowOk k (U.getD k (0, 0)) := HR.out.2 (.inr ⟨by omega, by omega, by omega, by omega⟩)
                  have HO := Lib.hid hok
                  have hR := fun w => s_row' (k : Int) true hrw w
                  clear hz hok hy9 hx9 ha hbb hrw hr9
                  go_wp2_with fail
                  go_quiet ((first | (go_at_call 49; with_reducible exact Calls.quiet_of_same (hS _)) | (go_at_call 49; exact Calls.quiet_of_same (hT _)) | (go_at_call 84; exact Calls.quiet_of_same (hR _))))
                  go_wp2_with fail
                  go_roundw
                  case rel => exact ⟨k + 1, by omega, by go_num, fun j hj => by
                    rcases Nat.lt_succ_iff_lt_or_eq.1 hj with h | h
                    · exact HJ.out j h
                    · rw [h]; exact HO.out, below_drewN hB _, hb⟩
                  case measure => simp [intOf]; omega
                · have hrw2 : inB (k : Int) 8 63 = false := by simpa using hrw
                  have hr9 : ¬ (8 ≤ (k : Int) ∧ (k : Int) ≤ 63) := by simpa [inB] using hrw
                  have hR := fun w => s_row' (k : Int) false hrw2 w
                  have hbad : ¬ rowOk k (U.getD k (0, 0)) := fun h => by rcases HR.out.1 h with h | h <;> omega
                  have HQ := Lib.hid (HNO.out k hlt hbad)
                  clear hz hbad hy9 hx9 ha hbb hrw hrw2 hr9
                  go_wp2_with fail
                  go_quiet ((first | (go_at_call 49; with_reducible exact Calls.quiet_of_same (hS _)) | (go_at_call 49; exact Calls.quiet_of_same (hT _)) | (go_at_call 84; exact Calls.quiet_of_same (hR _))))
                  go_wp2_with fail
                  go_ret
                  exact ⟨by rw [HQ.out]; rfl, below_drewN hB _⟩
            · have hbb2 : inB x 0 y = false := by simpa using hbb
              have hx9 : ¬ (0 ≤ x ∧ x ≤ y) := by simpa [inB] using hbb
              have hT := fun w => s_in' x 0 y false hbb2 w
              have hbad : ¬ rowOk k (U.getD k (0, 0)) := fun h => by rcases HR.out.1 h with h | h <;> omega
              have HQ := Lib.hid (HNO.out k hlt hbad)
              clear hbad hy9 hx9 ha hbb hbb2
              go_wp2_with fail
              go_quiet ((first | (go_at_call 49; with_reducible exact Calls.quiet_of_same (hS _)) | (go_at_call 49; exact Calls.quiet_of_same (hT _)) | (go_at_call 84; exact Calls.quiet_of_same (hR _))))
              go_wp2_with fail
              go_ret
              exact ⟨by rw [HQ.out]; rfl, below_drewN hB _⟩
          · have ha2 : inB y 0 900 = false := by simpa using ha
            have hbad : ¬ rowOk k (U.getD k (0, 0)) := fun h => by
              have h9 : ¬ (0 ≤ y ∧ y ≤ 900) := by simpa [inB] using ha
              rcases HR.out.1 h with h | h <;> omega
            have hqf := HNO.out k hlt hbad
            have HQ := Lib.hid hqf
            clear hbad hqf ha
            have hS := fun w => s_in' y 0 900 false ha2 w
            clear ha2
            go_wp2_with fail
            go_quiet ((go_at_call 49; exact Calls.quiet_of_same (hS _)))
            go_wp2_with fail
            go_ret
            exact ⟨by rw [HQ.out]; rfl, below_drewN hB _⟩
        · have hke : k = 64 := by omega
          subst hke
          go_wp2_with fail
          go_ret
          exact ⟨by rw [HY.out HJ.out]; rfl, hB⟩
    · have hno : okS s = false := okS_no fun h => h2 h.2.1
      have hq1 : ((64 : Int) != 64) = false := by decide
      have hq2 : ((s.last.length : Int) != 64) = true := by simp; omega
      rw [h1, hno]
      clear hno h1 h2 hA hn hm
      go_enter Try.func48, Try.ntmps48
      go_wp2_with fail
      go_ret
      exact ⟨rfl, bel_new (Below.refl _ _) _⟩
  · have hno : okS s = false := okS_no fun h => h1 h.1
    have hq1 : ((s.refs.length : Int) != 64) = true := by simp; omega
    rw [hno]
    clear hno h1 hA hn hm
    go_enter Try.func48, Try.ntmps48
    go_wp2_with fail
    go_ret
    exact ⟨rfl, bel_new (Below.refl _ _) _⟩
end Go.Proofs.Ytmnamclndpfjnaa
