/-
  FnStripeCut's walk.
-/
import Derived.Test.YtohfadgbmlfcmaaWhoI
import Derived.Test.YtohfadgbmlfcmaaBlk
namespace Go.Proofs.Ytohfadgbmlfcmaa
open Go.RowKit

set_option maxHeartbeats 1000000 in
theorem pf_texts (A B : Option Addr) (ca cb : Nat) (ss : List ByteArray) (w : World) (hn : ss.length ≤ 1048576) (hA : Lies w A (strCells ss)) (hB : Lies w B (strCells ss)) :
    Calls Try.prog 21 #[.slice A ss.length ca, .slice B ss.length cb] w fun e w' => e = .returned (.bool true) ∧ Below w.heap.size w w' := by
  have hq0 : ((ss.length : Int) != (ss.length : Int)) = false := by simp
  go_enter Try.func21, Try.ntmps21
  go_wp2
  go_loopw [5] (fun i wr => ∃ k : Nat, k ≤ ss.length ∧ i = .int .i64 k ∧ Below w.heap.size w wr) (fun i _ => ss.length - (intOf i).toNat)
  case atStart => exact ⟨0, Nat.zero_le _, rfl, Below.refl _ _⟩
  case round =>
    obtain ⟨k, hk, rfl, hb⟩ := hrel
    by_cases hlt : k < ss.length
    · obtain ⟨b, off, rfl, hlb, hck⟩ := (hA.below hb).str k hlt
      obtain ⟨b2, off2, rfl, hlb2, hck2⟩ := (hB.below hb).str k hlt
      obtain ⟨x, hx⟩ : ∃ x, x = ss[k] := ⟨_, rfl⟩
      rw [← hx] at hck hck2
      have hq : (!x.toList == x.toList) = false := by simp
      have hlt' : (k : Int) < (ss.length : Int) := by omega
      clear hx
      go_wp2_with fail
      go_quiet (fail)
      go_wp2
      go_roundw
      case rel => exact ⟨k + 1, by omega, by go_num, below_drewN hb _⟩
      case measure => simp [intOf]; omega
    · have hke : k = ss.length := by omega
      subst hke
      go_wp2
      go_ret
      exact ⟨rfl, hb⟩

/-- Some text is drawn. -/
def DrawnT (w : World) (r : Ending) (w' : World) : Prop := ∃ t : ByteArray, r = .returned (.string t) ∧ t.size ≤ 1000 ∧ Below w.heap.size w w'
set_option maxRecDepth 100000 in
set_option maxHeartbeats 2000000 in
theorem draw_scut (A : Option Addr) (n cap : Nat) (w : World) (hn : n ≤ cap) (hA : BytesAt w A n) : Calls Try.prog 20 #[.slice A n cap] w (DrawnT w) := by
  have hO := open_rd A n cap w hn hA
  go_enter Try.func20, Try.ntmps20
  go_wp2_with (go_at_call 35; refine hO.mono ?_; rintro r w1 ⟨A1, m1, c1, B1, rfl, h1⟩; refine Hid.out ?_)
  refine Lib.hid ?_
  have hB := block_gr w w1 B1 A1 m1 c1 0 h1 (by omega)
  clear hO
  go_wp2_with (go_at_call 36; refine hB.mono ?_; rintro r w2 ⟨t, p', rfl, ht, h2, hp, g2⟩)
  go_ret
  exact ⟨t, rfl, ht, h2.bel⟩

/-- What is cut is joined again by each way. -/
theorem join_cutD {t : ByteArray} (hb : blockB t = true) (lost : Int) (h : -1 ≤ lost ∧ lost ≤ 1) : joinD (texts3 t.data.toList) (t.size : Int) lost = (t, true) := by
  have hs := (blockB_iff t).1 hb
  unfold texts3
  rw [joinD_yes _ _ _ _ _ hs.1 hs.2 h, strOf_toList, strOf_toList, strOf_toList]
  have e : t.size = t.data.toList.length := (toL_len t).symm
  rw [e, join_cut]
  exact Prod.ext (bytes_inj (strOf_toList _)) rfl
theorem whole_cutD {t : ByteArray} (hb : blockB t = true) : wholeD (texts3 t.data.toList) (t.size : Int) = true := by
  unfold wholeD
  rw [join_cutD hb (-1) (by omega)]
  have e : cutD t = texts3 t.data.toList := if_pos hb
  rw [e]
  simp

set_option maxRecDepth 100000 in
set_option maxHeartbeats 8000000 in
theorem walk_scut (A : Option Addr) (n cap : Nat) (w : World) (hD : Calls Try.prog 20 #[.slice A n cap] w (DrawnT w)) :
    Calls Try.prog 6 #[.slice A n cap] w fun r w' => r = .returned (.bool true) ∧ Below w.heap.size w w' := by
  by_cases hbig : 1048576 < n
  · have hbig2 : (1048576 : Int) < (n : Int) := by omega
    clear hD hbig
    go_enter Try.func6, Try.ntmps6
    go_wp2
    go_ret
    exact ⟨rfl, Below.refl _ _⟩
  have hbig2 : ¬ (1048576 : Int) < (n : Int) := by omega
  clear hbig
  go_enter Try.func6, Try.ntmps6
  go_wp2_with (go_at_call 20; refine hD.mono ?_; rintro r w1 ⟨t, rfl, ht, BB⟩; refine Hid.out ?_)
  refine Lib.hid ?_
  clear hD hbig2
  have htm : t.size ≤ maxLen := by unfold maxLen; omega
  have hI := fun w => impl_cut t w htm
  have hS := fun w => spec_cut t w htm
  by_cases hb : blockB t = true
  · have hs := (blockB_iff t).1 hb
    have hcd : cutD t = texts3 t.data.toList := if_pos hb
    simp only [hcd, hb] at hI hS
    have hJ := fun lost h => join_cutD hb lost h
    have hW := whole_cutD hb
    obtain ⟨x0, hx0⟩ : ∃ x, x = strOf (colA t.data.toList) := ⟨_, rfl⟩
    obtain ⟨x1, hx1⟩ : ∃ x, x = strOf (colB t.data.toList) := ⟨_, rfl⟩
    obtain ⟨x2, hx2⟩ : ∃ x, x = strOf (colP t.data.toList) := ⟨_, rfl⟩
    have z0 : x0.size = half t.size := by rw [hx0, strOf_size, colA_len, toL_len]
    have z1 : x1.size = t.size - half t.size := by rw [hx1, strOf_size, colB_len, toL_len]
    have z2 : x2.size = half t.size := by rw [hx2, strOf_size, colP_len, toL_len]
    have e3 : texts3 t.data.toList = [x0, x1, x2] := by rw [hx0, hx1, hx2]; rfl
    rw [e3] at hW
    simp only [e3] at hI hS hJ
    clear hx0 hx1 hx2 e3 hcd
    obtain ⟨ss, hss⟩ : ∃ ss, ss = [x0, x1, x2] := ⟨_, rfl⟩
    have hsl : ss.length ≤ maxLen := by rw [hss]; show 3 ≤ maxLen; unfold maxLen; omega
    have hl3 : ss.length ≤ 1048576 := by rw [hss]; show 3 ≤ 1048576; omega
    have hsz : ∀ s ∈ ss, s.size ≤ maxLen := by
      rw [hss]
      have := half_le t.size
      intro s hs'
      simp only [List.mem_cons, List.not_mem_nil, or_false] at hs'
      unfold maxLen
      rcases hs' with rfl | rfl | rfl <;> omega
    have hJI : ∀ A c W (lost : Int), -1 ≤ lost ∧ lost ≤ 1 → Lies W A (strCells ss) → Calls Try.prog 17 #[.slice A ss.length c, .int .i64 (t.size : Int), .int .i64 lost] W (Told2 t true W) := fun A c W lost h hL =>
      (impl_join A c ss (t.size : Int) lost W hsl hsz hL).mono fun r w' ⟨he, hb2⟩ => ⟨by rw [he, hss, hJ lost h], hb2⟩
    have hWI : ∀ A c W, Lies W A (strCells ss) → Calls Try.prog 19 #[.slice A ss.length c, .int .i64 (t.size : Int)] W fun r w' => r = .returned (.bool true) ∧ Below W.heap.size W w' := fun A c W hL =>
      (impl_whole A c ss (t.size : Int) W hsl hsz hL).mono fun r w' ⟨he, hb2⟩ => ⟨by rw [he, hss, hW], hb2⟩
    simp only [← hss] at hI hS
    have hhl := half_le t.size
    have hd1 : IntKind.i64.wrap ((half t.size : Nat) - ((t.size - half t.size : Nat) : Int)) = (half t.size : Nat) - ((t.size - half t.size : Nat) : Int) := IntWalk.i64_in _ (by omega)
    have hd2 : ((half t.size : Nat) : Int) - ((t.size - half t.size : Nat) : Int) ≤ 1 := by unfold half; omega
    have HSS := Lib.hid hss
    have HZ := Lib.hid (show x0.size = half t.size ∧ x1.size = t.size - half t.size ∧ x2.size = half t.size from ⟨z0, z1, z2⟩)
    have HD := Lib.hid (show _ ∧ _ from ⟨hd1, hd2⟩)
    clear hs z0 z1 z2 hJ hW hsl hsz hss hd1 hd2 hb htm
    go_wp2_with (go_at_call 10; refine (hI _).mono ?_; rintro r w2 ⟨A2, c2, rfl, o2, b2⟩; refine Hid.out ?_)
    refine Lib.hid ?_
    have BB := bel_then BB b2
    have L2 := row_lies o2
    clear hI b2 o2
    go_wp2_with (go_at_call 9; refine (hS _).mono ?_; rintro r w3 ⟨A3, c3, rfl, o3, b3⟩; refine Hid.out ?_)
    refine Lib.hid ?_
    have BB := bel_then BB b3
    have L2 := L2.below b3
    have hP := pf_texts A2 A3 c2 c3 ss w3 hl3 L2 (row_lies o3)
    clear hS b3 o3
    go_wp2_with (go_at_call 21; refine hP.mono ?_; rintro r w4 ⟨rfl, b4⟩; refine Hid.out ?_)
    refine Lib.hid ?_
    have BB := bel_then BB b4
    have L2 := L2.below b4
    have hq : (!t.toList == t.toList) = false := by simp
    clear hP b4 hl3
    go_wp2_with fail
    go_loopw [9] (fun i wr => ∃ z : Int, -1 ≤ z ∧ z ≤ 2 ∧ i = .int .i64 z ∧ Below w.heap.size w wr ∧ Lies wr A2 (strCells ss)) (fun i _ => (2 - intOf i).toNat)
    case atStart => exact ⟨-1, by omega, by omega, rfl, BB, L2⟩
    case round =>
      clear BB L2
      obtain ⟨z, hz0, hz1, rfl, BB, L2⟩ := hrel
      by_cases hz : z ≤ 1
      · have hJ2 := hJI A2 c2 wr z ⟨hz0, hz⟩ L2
        go_wp2_with (go_at_call 17; refine hJ2.mono ?_; rintro r w5 ⟨rfl, b5⟩; refine Hid.out ?_)
        refine Lib.hid ?_
        have BB := bel_then BB b5
        have L2 := L2.below b5
        clear hJ2 b5 hJI hWI
        go_wp2_with fail
        go_roundw
        case rel => exact ⟨z + 1, by omega, by omega, rfl, BB, L2⟩
        case measure => simp [intOf]; omega
      · have hWd := hWI A2 c2 wr.drew L2
        clear hJI hWI
        rw [HSS.out] at hWd
        have L3 := L2
        rw [HSS.out] at L3
        obtain ⟨b, off, rfl, hT⟩ := Three.of L3
        have hTd : Three wr.drew b off x0 x1 x2 := hT
        have hT3 := hTd.cells
        obtain ⟨q0, q1, q2⟩ := HZ.out
        obtain ⟨d1, d2⟩ := HD.out
        have hl3 : ss.length = 3 := by rw [HSS.out]; rfl
        obtain ⟨H, hH⟩ : ∃ H, H = half t.size := ⟨_, rfl⟩
        obtain ⟨M, hM⟩ : ∃ M, M = t.size - half t.size := ⟨_, rfl⟩
        simp only [← hM] at q0 q1 q2 d1 d2
        simp only [← hH] at q0 q1 q2 d1 d2
        have hfin : decide (IntKind.i64.wrap ((H : Int) - (M : Int)) ≤ 1) = true := by rw [d1]; simpa using d2
        have HFIN := Lib.hid hfin
        have hqh : ((H : Int) == (H : Int)) = true := by simp
        clear hH hM d1 d2 hfin L2 L3 hT HD HZ HSS
        go_wp2_with fail
        go_upto_region 15 with fail
        go_region_held3 (fun W => W.cell? ⟨b, off, none⟩ = some (.string x0) ∧ W.cell? ⟨b, off + 1, none⟩ = some (.string x1) ∧ W.cell? ⟨b, off + 2, none⟩ = some (.string x2))
          ((show ThreeC b off x0 x1 x2 _; with_reducible (first | exact hT3 | exact hT4)))
          (first
            | (go_at_call 19; refine hWd.mono ?_; rintro r w6 ⟨rfl, hb6⟩; have hT4 := (hTd.below hb6).cells))
        go_wp2_with fail
        go_ret
        refine ⟨?_, bel_then BB.drew hb6⟩
        show Ending.returned (Value.bool (decide (IntKind.i64.wrap ((H : Int) - (M : Int)) ≤ 1))) = _
        rw [HFIN.out]
  · have hbf : blockB t = false := by simpa using hb
    have hcd : cutD t = [] := if_neg hb
    simp only [hcd, hbf] at hI hS
    obtain ⟨ss, hss⟩ : ∃ ss : List ByteArray, ss = [] := ⟨_, rfl⟩
    have hl3 : ss.length ≤ 1048576 := by rw [hss]; show 0 ≤ 1048576; omega
    simp only [← hss] at hI hS
    clear hb hbf hcd hss htm
    go_wp2_with (go_at_call 10; refine (hI _).mono ?_; rintro r w2 ⟨A2, c2, rfl, o2, b2⟩; refine Hid.out ?_)
    refine Lib.hid ?_
    have BB := bel_then BB b2
    have L2 := row_lies o2
    clear hI b2 o2
    go_wp2_with (go_at_call 9; refine (hS _).mono ?_; rintro r w3 ⟨A3, c3, rfl, o3, b3⟩; refine Hid.out ?_)
    refine Lib.hid ?_
    have BB := bel_then BB b3
    have L2 := L2.below b3
    have hP := pf_texts A2 A3 c2 c3 ss w3 hl3 L2 (row_lies o3)
    clear hS b3 o3
    go_wp2_with (go_at_call 21; refine hP.mono ?_; rintro r w4 ⟨rfl, b4⟩)
    go_ret
    exact ⟨rfl, bel_then BB b4⟩
end Go.Proofs.Ytohfadgbmlfcmaa
