/-
  The model's columns of a block, and what it reckons from two of them.
-/
import Derived.Test.YtndckncoipkhaaaCtSt
import Derived.Test.YtndckncoipkhaaaCtMark
import Derived.Test.YtndckncoipkhaaaCtOwn5
import Derived.Laws.BitsAllLaws
namespace Go.Proofs.Ytndckncoipkhaaa.Cut
open Go.RowKit

def inB (n a b : Int) : Bool := decide (a ≤ n ∧ n ≤ b)
theorem inB_yes {n a b : Int} (h1 : a ≤ n) (h2 : n ≤ b) : inB n a b = true := by simp [inB, h1, h2]
theorem inB_no {n a b : Int} (h : ¬ (a ≤ n ∧ n ≤ b)) : inB n a b = false := by simp only [inB, h, decide_false]
theorem in_any (n a b : Int) (w : World) : Calls Try.prog 72 #[.int .i64 n, .int .i64 a, .int .i64 b] w fun r w' => r = .returned (.bool (inB n a b)) ∧ w' = w := by
  by_cases h1 : a ≤ n
  · by_cases h2 : n ≤ b
    · rw [inB_yes h1 h2]
      go_enter Try.func72, Try.ntmps72
      go_wp2
      go_ret
      exact ⟨rfl, rfl⟩
    · rw [inB_no (fun h => h2 h.2)]
      go_enter Try.func72, Try.ntmps72
      go_wp2
      go_ret
      exact ⟨rfl, rfl⟩
  · rw [inB_no (fun h => h1 h.1)]
    go_enter Try.func72, Try.ntmps72
    go_wp2
    go_ret
    exact ⟨rfl, rfl⟩
theorem within_any (n a b : Int) (w : World) : Calls Try.prog 74 #[.int .i64 n, .int .i64 a, .int .i64 b] w fun r w' => r = .returned (.bool (inB n a b)) ∧ w' = w := by
  by_cases h1 : a ≤ n
  · by_cases h2 : n ≤ b
    · rw [inB_yes h1 h2]
      go_enter Try.func74, Try.ntmps74
      go_wp2
      go_ret
      exact ⟨rfl, rfl⟩
    · rw [inB_no (fun h => h2 h.2)]
      go_enter Try.func74, Try.ntmps74
      go_wp2
      go_ret
      exact ⟨rfl, rfl⟩
  · rw [inB_no (fun h => h1 h.1)]
    go_enter Try.func74, Try.ntmps74
    go_wp2
    go_ret
    exact ⟨rfl, rfl⟩
def blockB (t : ByteArray) : Bool := inB (t.size : Int) 1 128
theorem l2_block (t : ByteArray) (w : World) (h : t.size ≤ maxLen) : Calls Try.prog 48 #[.string t] w fun r w' => r = .returned (.bool (blockB t)) ∧ w' = w := by
  unfold maxLen at h
  unfold blockB
  go_enter Try.func48, Try.ntmps48
  go_wp2_with (go_at_call 72; refine (in_any _ _ _ _).mono ?_; rintro r w' ⟨rfl, rfl⟩)
  go_ret
  exact ⟨rfl, rfl⟩
theorem block_ok (t : ByteArray) (w : World) (h : t.size ≤ maxLen) : Calls Try.prog 53 #[.string t] w fun r w' => r = .returned (.bool (blockB t)) ∧ w' = w := by
  unfold maxLen at h
  unfold blockB
  go_enter Try.func53, Try.ntmps53
  go_wp2_with (go_at_call 74; refine (within_any _ _ _ _).mono ?_; rintro r w' ⟨rfl, rfl⟩)
  go_ret
  exact ⟨rfl, rfl⟩

theorem half_is (n : Nat) (w : World) (h : n ≤ 1048576) : Calls Try.prog 91 #[.int .i64 (n : Int)] w fun r w' => r = .returned (.int .i64 ((half n : Nat) : Int)) ∧ w' = w := by
  have hd : ((n : Int) + 1).tdiv 2 = ((half n : Nat) : Int) := by rw [Int.tdiv_eq_ediv_of_nonneg (by omega)]; unfold half; omega
  have hd2 : ((n : Int) + 1) / 2 = ((half n : Nat) : Int) := by unfold half; omega
  have hw := IntWalk.i64_in ((n : Int) + 1) (by omega)
  obtain ⟨k, hk⟩ : ∃ k, k = half n := ⟨_, rfl⟩
  rw [← hk] at hd hd2 ⊢
  clear hk
  go_enter Try.func91, Try.ntmps91
  go_wp2
  go_ret
  exact ⟨rfl, rfl⟩

theorem xor_u8 (x y : UInt8) : bits .xor .u8 (x.toNat : Int) (y.toNat : Int) = ((x ^^^ y).toNat : Int) := by
  rw [u8_xor_nat _ _ x.toNat_lt y.toNat_lt, UInt8.toNat_xor]
/-- A byte of a text, or zero. -/
theorem at_getD (l : List UInt8) (i : Nat) (h : i < l.length) : l.getD i 0 = l[i] := by
  rw [List.getD_eq_getElem?_getD, List.getElem?_eq_getElem h]; rfl
theorem past_getD (l : List UInt8) (i : Nat) (h : l.length ≤ i) : l.getD i 0 = 0 := by
  rw [List.getD_eq_getElem?_getD, List.getElem?_eq_none h]; rfl
theorem colA_getD (l : List UInt8) (i : Nat) (h : i < half l.length) : (colA l).getD i 0 = l.getD i 0 := by
  have := half_le l.length
  rw [List.getD_eq_getElem?_getD, List.getD_eq_getElem?_getD, colA, List.getElem?_take, if_pos h]
theorem colB_getD (l : List UInt8) (i : Nat) : (colB l).getD i 0 = l.getD (half l.length + i) 0 := by
  rw [List.getD_eq_getElem?_getD, List.getD_eq_getElem?_getD, colB, List.getElem?_drop]
theorem colP_next (l : List UInt8) (k : Nat) (h : k < half l.length) : mixL (colA l) (colB l) (k + 1) = mixL (colA l) (colB l) k ++ [l.getD k 0 ^^^ l.getD (half l.length + k) 0] := by
  rw [mixL_next, colA_getD l k h, colB_getD]

def texts3 (l : List UInt8) : List ByteArray := [strOf (colA l), strOf (colB l), strOf (colP l)]
/-- Some texts, in memory of the call's own. -/
def RowPost (ss : List ByteArray) (w : World) (r : Ending) (w' : World) : Prop :=
  ∃ A c, r = .returned (.slice A ss.length c) ∧ w'.ownsRow w.heap.size 9 1 (.slice A ss.length c) ss.length (strCells ss) ∧ Below w.heap.size w w'

theorem ext_list (s : ByteArray) (k : Nat) : (s.extract k s.size).data.toList = s.data.toList.drop k := by
  have h : (s.extract k s.size).data = s.data.extract k s.size := by simp
  rw [h, Array.toList_extract]
  simp only [List.extract_eq_take_drop]
  exact List.take_of_length_le (by simp)
theorem ext_head (s : ByteArray) (k : Nat) : (s.extract 0 k).data.toList = s.data.toList.take k := by
  have h : (s.extract 0 k).data = s.data.extract 0 k := by simp
  rw [h, Array.toList_extract]
  simp [List.extract_eq_take_drop]
theorem own_base {w : World} {base base' : Nat} {t : TypeId} {sz n : Nat} {v : Value} {xs : List Value} (h : w.ownsRow base t sz v n xs) (hb : base' ≤ base) : w.ownsRow base' t sz v n xs := by
  rcases h with ⟨h1, h2⟩
  refine ⟨h1, ?_⟩
  rcases h2 with h2 | ⟨g, cap, cur, e, hg, r⟩
  · exact .inl h2
  · exact .inr ⟨g, cap, cur, e, Nat.le_trans hb hg, r⟩
theorem own_new {w : World} {t : TypeId} (cs : List ByteArray) (h : cs.length ≤ 1000) : (w.alloc (.cells (strCells cs).toArray t)).ownsRow w.heap.size t 1 (.slice (some ⟨w.heap.size, 0, none⟩) cs.length cs.length) cs.length (strCells cs) := by
  refine ⟨by rw [strCells_len, Nat.mul_one], .inr ⟨w.heap.size, cs.length, (strCells cs).toArray, rfl, Nat.le_refl _, heap_alloc_new w _, Nat.le_refl _, by unfold maxLen; omega, by simp [strCells], ?_⟩⟩
  rw [List.take_of_length_le (by simp [strCells])]

set_option maxRecDepth 100000 in
set_option maxHeartbeats 2000000 in
theorem l4_cut (t : ByteArray) (w : World) (h : t.size ≤ 128) : Calls Try.prog 51 #[.string t] w (RowPost (texts3 t.data.toList) w) := by
  obtain ⟨i0, hi, hz0, hz1, hz2⟩ := info_parts Try.info5
  obtain ⟨l, hl⟩ : ∃ l, l = t.data.toList := ⟨_, rfl⟩
  have hln : l.length = t.size := by rw [hl, Array.length_toList]; rfl
  have hh := half_le t.size
  go_enter Try.func51, Try.ntmps51
  obtain ⟨H, hH⟩ : ∃ H, H = half t.size := ⟨_, rfl⟩
  have hHl : H = half l.length := by rw [hH, hln]
  have hF := half_is t.size
  simp only [← hH] at hF hh
  have HL := Lib.hid hl
  have HN := Lib.hid hln
  have HHL := Lib.hid hHl
  clear hH hl hln hHl
  go_wp2_with (go_at_call 91; refine (hF _ (by omega)).mono ?_; rintro r w' ⟨rfl, rfl⟩)
  have o0 := World.ownsRow_made (e := 5) (base := w'.heap.size) w' (size := 1) #[] 0 (Nat.le_refl _) (by decide) rfl
  go_loopw [4, 5] (fun p i wr => ∃ o : List UInt8, o.length ≤ H ∧ i = .int .i64 (o.length : Int) ∧ o = mixL (colA l) (colB l) o.length ∧ wr.ownsRow w'.heap.size 5 1 p o.length (cellsOf o) ∧ Below w'.heap.size w' wr) (fun _ i _ => H - (intOf i).toNat)
  case atStart => exact ⟨[], Nat.zero_le _, rfl, rfl, o0, bel_new (Below.refl _ _) _⟩
  case round =>
    obtain ⟨o, hk, rfl, hoo, ho, hb⟩ := hrel
    have HOO := Lib.hid hoo
    clear o0 hoo
    obtain ⟨a, c0, rfl⟩ := own_shape ho
    by_cases hlt : o.length < H
    · have hkt : o.length < t.size := by omega
      have hw1 := IntWalk.i64_in ((H : Int) + (o.length : Int)) (by omega)
      by_cases h2 : H + o.length < t.size
      · have h2' : (H : Int) + (o.length : Int) < (t.size : Int) := by omega
        have hx := xor_u8 t[o.length] t[H + o.length]
        obtain ⟨c, hc⟩ : ∃ c, c = t[o.length] ^^^ t[H + o.length] := ⟨_, rfl⟩
        rw [← hc] at hx
        have HC := Lib.hid hc
        clear hc
        go_wp2_with (at_builtin; refine wpList_append_own_at _ rfl _ _ 100 rfl w'.heap.size 5 i0 (.int .u8 0) 1 1 Try.underlying100 hi hz0 hz1 hz2 rfl (by decide) _ _ _ rfl (ho.alloc _) ⟨wr.heap.size, 0, none⟩ 1 1 [.int .u8 (c.toNat : Int)] rfl rfl (cell_one_new _ _ _) (by simp [Value.oneCell']) (by unfold maxLen; omega) (by omega) (by have := hb.size; simp; omega) ?_)
        intro v' w4 hown' hgrow _ hat
        have R := own_next hown' (m := [c]) rfl rfl
        have B1 : Below w'.heap.size w' w4 := (bel_new hb _).grown hgrow (by have := hb.size; simp; omega) (fun k e => (ho.lt k e).1)
        have hce : c = l.getD o.length 0 ^^^ l.getD (H + o.length) 0 := by
          rw [HC.out, at_getD l _ (by rw [HN.out]; exact hkt), at_getD l _ (by rw [HN.out]; exact h2)]
          simp only [HL.out]
          rfl
        have hnx : o ++ [c] = mixL (colA l) (colB l) (o.length + 1) := by
          rw [colP_next l o.length (by rw [← HHL.out]; exact hlt), ← HOO.out, ← HHL.out, hce]
        have NX := Lib.hid hnx
        clear hown' hgrow hat ho hb hce hnx hx
        go_wp2
        go_roundw
        case rel => exact ⟨o ++ [c], by simp; omega, by simp, by simpa using NX.out, by simpa using R, B1⟩
        case measure => simp [intOf]; omega
      · have h2' : ¬ (H : Int) + (o.length : Int) < (t.size : Int) := by omega
        go_wp2_with (at_builtin; refine wpList_append_own_at _ rfl _ _ 100 rfl w'.heap.size 5 i0 (.int .u8 0) 1 1 Try.underlying100 hi hz0 hz1 hz2 rfl (by decide) _ _ _ rfl (ho.alloc _) ⟨wr.heap.size, 0, none⟩ 1 1 [.int .u8 (t[o.length].toNat : Int)] rfl rfl (cell_one_new _ _ _) (by simp [Value.oneCell']) (by unfold maxLen; omega) (by omega) (by have := hb.size; simp; omega) ?_)
        intro v' w4 hown' hgrow _ hat
        have R := own_next hown' (m := [t[o.length]]) rfl rfl
        have B1 : Below w'.heap.size w' w4 := (bel_new hb _).grown hgrow (by have := hb.size; simp; omega) (fun k e => (ho.lt k e).1)
        have hce : t[o.length] = l.getD o.length 0 ^^^ l.getD (H + o.length) 0 := by
          rw [at_getD l _ (by rw [HN.out]; exact hkt), past_getD l _ (by rw [HN.out]; omega), UInt8.xor_zero]
          simp only [HL.out]
          rfl
        have hnx : o ++ [t[o.length]] = mixL (colA l) (colB l) (o.length + 1) := by
          rw [colP_next l o.length (by rw [← HHL.out]; exact hlt), ← HOO.out, ← HHL.out, hce]
        have NX := Lib.hid hnx
        clear hown' hgrow hat ho hb hce hnx
        go_wp2
        go_roundw
        case rel => exact ⟨o ++ [t[o.length]], by simp; omega, by simp, by simpa using NX.out, by simpa using R, B1⟩
        case measure => simp [intOf]; omega
    · have hH1 : (H : Int) ≤ (t.size : Int) := by omega
      have hcv := conv_own ho
      have hcvd := conv_own ho.drew
      have hke : o.length = H := by omega
      have hol : strCells [t.extract 0 H, t.extract H t.size, strOf o] = strCells (texts3 l) := by
        unfold texts3
        have e1 : t.extract 0 H = strOf (colA l) := by
          apply bytes_inj
          rw [strOf_toList, ext_head, HHL.out, ← HL.out]; rfl
        have e2 : t.extract H t.size = strOf (colB l) := by
          apply bytes_inj
          rw [strOf_toList, ext_list, HHL.out, ← HL.out]; rfl
        have e3 : o = colP l := by rw [HOO.out, hke, HHL.out]; rfl
        rw [e1, e2, e3]
      have HE := Lib.hid hol
      clear hol hke
      go_wp2_with fail
      first
        | go_region_with (fail)
        | fail "region"
      go_wp2_with fail
      go_ret
      rw [← HL.out]
      exact ⟨some ⟨wr.heap.size, 0, none⟩, 3, rfl, by rw [← HE.out]; exact own_base (own_new (w := wr) (t := 9) [t.extract 0 H, t.extract H t.size, strOf o] (by simp)).drew hb.size, (bel_new hb _).drew⟩
end Go.Proofs.Ytndckncoipkhaaa.Cut
