/-
  What the model reckons of a column from the other one and the parity.
-/
import Derived.Test.YtndckncoipkhaaaCtCutS
namespace Go.Proofs.Ytndckncoipkhaaa.Cut
open Go.RowKit

set_option maxRecDepth 100000 in
set_option maxHeartbeats 2000000 in
theorem l4_other (a p : ByteArray) (n : Nat) (w : World) (hn : n ≤ 128) (hp : n ≤ p.size) (ha : a.size ≤ maxLen) :
    Calls Try.prog 122 #[.string a, .string p, .int .i64 (n : Int)] w fun r w' => r = .returned (.string (strOf (mixL p.data.toList a.data.toList n))) ∧ Below w.heap.size w w' := by
  obtain ⟨i0, hi, hz0, hz1, hz2⟩ := info_parts Try.info5
  obtain ⟨l, hl⟩ : ∃ l, l = p.data.toList := ⟨_, rfl⟩
  obtain ⟨m, hm⟩ : ∃ l, l = a.data.toList := ⟨_, rfl⟩
  have hln : l.length = p.size := by rw [hl, Array.length_toList]; rfl
  have hmn : m.length = a.size := by rw [hm, Array.length_toList]; rfl
  rw [← hl, ← hm]
  have HL := Lib.hid hl
  have HN := Lib.hid hln
  have HM := Lib.hid hm
  have HMN := Lib.hid hmn
  unfold maxLen at ha
  clear hl hln hm hmn
  go_enter Try.func122, Try.ntmps122
  go_wp2_with fail
  have o0 := World.ownsRow_made (e := 5) (base := w.heap.size) w (size := 1) #[] 0 (Nat.le_refl _) (by decide) rfl
  go_loopw [7, 8] (fun v i wr => ∃ o : List UInt8, o.length ≤ n ∧ i = .int .i64 (o.length : Int) ∧ o = mixL l m o.length ∧ wr.ownsRow w.heap.size 5 1 v o.length (cellsOf o) ∧ Below w.heap.size w wr) (fun _ i _ => n - (intOf i).toNat)
  case atStart => exact ⟨[], Nat.zero_le _, rfl, rfl, o0, bel_new (Below.refl _ _) _⟩
  case round =>
    obtain ⟨o, hk, rfl, hoo, ho, hb⟩ := hrel
    have HOO := Lib.hid hoo
    clear o0 hoo
    obtain ⟨A, c0, rfl⟩ := own_shape ho
    by_cases hlt : o.length < n
    · have hkt : o.length < p.size := by omega
      by_cases h2 : o.length < a.size
      · have h2' : (o.length : Int) < (a.size : Int) := by omega
        have hx := xor_u8 p[o.length] a[o.length]
        obtain ⟨c, hc⟩ : ∃ c, c = p[o.length] ^^^ a[o.length] := ⟨_, rfl⟩
        rw [← hc] at hx
        have HC := Lib.hid hc
        clear hc
        go_wp2_with (at_builtin; refine wpList_append_own_at _ rfl _ _ 100 rfl w.heap.size 5 i0 (.int .u8 0) 1 1 Try.underlying100 hi hz0 hz1 hz2 rfl (by decide) _ _ _ rfl (ho.alloc _) ⟨wr.heap.size, 0, none⟩ 1 1 [.int .u8 (c.toNat : Int)] rfl rfl (cell_one_new _ _ _) (by simp [Value.oneCell']) (by unfold maxLen; omega) (by omega) (by have := hb.size; simp; omega) ?_)
        intro v' w4 hown' hgrow _ hat
        have R := own_next hown' (m := [c]) rfl rfl
        have B1 : Below w.heap.size w w4 := (bel_new hb _).grown hgrow (by have := hb.size; simp; omega) (fun k e => (ho.lt k e).1)
        have hce : c = l.getD o.length 0 ^^^ m.getD o.length 0 := by
          rw [HC.out, at_getD l _ (by rw [HN.out]; exact hkt), at_getD m _ (by rw [HMN.out]; exact h2)]
          simp only [HL.out, HM.out]
          rfl
        have hnx : o ++ [c] = mixL l m (o.length + 1) := by rw [mixL_next, ← HOO.out, hce]
        have NX := Lib.hid hnx
        clear hown' hgrow hat ho hb hce hnx hx
        go_wp2
        go_roundw
        case rel => exact ⟨o ++ [c], by simp; omega, by simp, by simpa using NX.out, by simpa using R, B1⟩
        case measure => simp [intOf]; omega
      · have h2' : ¬ (o.length : Int) < (a.size : Int) := by omega
        go_wp2_with (at_builtin; refine wpList_append_own_at _ rfl _ _ 100 rfl w.heap.size 5 i0 (.int .u8 0) 1 1 Try.underlying100 hi hz0 hz1 hz2 rfl (by decide) _ _ _ rfl (ho.alloc _) ⟨wr.heap.size, 0, none⟩ 1 1 [.int .u8 (p[o.length].toNat : Int)] rfl rfl (cell_one_new _ _ _) (by simp [Value.oneCell']) (by unfold maxLen; omega) (by omega) (by have := hb.size; simp; omega) ?_)
        intro v' w4 hown' hgrow _ hat
        have R := own_next hown' (m := [p[o.length]]) rfl rfl
        have B1 : Below w.heap.size w w4 := (bel_new hb _).grown hgrow (by have := hb.size; simp; omega) (fun k e => (ho.lt k e).1)
        have hce : p[o.length] = l.getD o.length 0 ^^^ m.getD o.length 0 := by
          rw [at_getD l _ (by rw [HN.out]; exact hkt), past_getD m _ (by rw [HMN.out]; omega), UInt8.xor_zero]
          simp only [HL.out]
          rfl
        have hnx : o ++ [p[o.length]] = mixL l m (o.length + 1) := by rw [mixL_next, ← HOO.out, hce]
        have NX := Lib.hid hnx
        clear hown' hgrow hat ho hb hce hnx
        go_wp2
        go_roundw
        case rel => exact ⟨o ++ [p[o.length]], by simp; omega, by simp, by simpa using NX.out, by simpa using R, B1⟩
        case measure => simp [intOf]; omega
    · have hcv := conv_own ho
      have hke : o.length = n := by omega
      have hoe : o = mixL l m n := by rw [← hke]; exact HOO.out
      have HE := Lib.hid hoe
      clear hke hoe
      go_wp2_with fail
      go_ret
      exact ⟨by rw [← HE.out]; rfl, hb⟩
end Go.Proofs.Ytndckncoipkhaaa.Cut
