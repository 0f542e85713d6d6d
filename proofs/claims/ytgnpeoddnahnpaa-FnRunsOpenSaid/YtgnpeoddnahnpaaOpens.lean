/-
  Plain facts on opening packed texts; spec.RunsOpen answers by them at every text of at most 10^9 bytes.
-/
import Derived.Test.YtgnpeoddnahnpaaPackI
namespace Go.Proofs.Ytgnpeoddnahnpaa
open Go.RowKit

def openL : List UInt8 → Option (List UInt8)
  | [] => some []
  | c :: l => if c = 126 then
      (match l with
      | a :: b :: r => if 49 ≤ a.toNat ∧ a.toNat ≤ 57 then (openL r).map (List.replicate (a.toNat - 48) b ++ ·) else none
      | _ => none)
      else (openL l).map ([c] ++ ·)
termination_by l => l.length
decreasing_by all_goals simp <;> omega

theorem openL_nil : openL [] = some [] := by rw [openL]
theorem openL_lit (c : UInt8) (l : List UInt8) (h : c ≠ 126) : openL (c :: l) = (openL l).map ([c] ++ ·) := by
  rw [openL.eq_def]
  exact if_neg h
theorem openL_run (a b : UInt8) (r : List UInt8) (h : 49 ≤ a.toNat ∧ a.toNat ≤ 57) : openL (126 :: a :: b :: r) = (openL r).map (List.replicate (a.toNat - 48) b ++ ·) := by
  rw [openL, if_pos rfl, if_pos h]
theorem openL_bad (a b : UInt8) (r : List UInt8) (h : ¬ (49 ≤ a.toNat ∧ a.toNat ≤ 57)) : openL (126 :: a :: b :: r) = none := by
  rw [openL, if_pos rfl, if_neg h]
theorem openL_short (l : List UInt8) (h : l.length < 2) : openL (126 :: l) = none := by
  match l, h with
  | [], _ => rw [openL.eq_def]; rfl
  | [_], _ => rw [openL.eq_def]; rfl

def openA (l : List UInt8) : List UInt8 × Bool :=
  match openL l with
  | none => ([], false)
  | some t => if pack t = l then (t, true) else ([], false)
theorem openA_none {l : List UInt8} (h : openL l = none) : openA l = ([], false) := by unfold openA; rw [h]
theorem openA_yes {l t : List UInt8} (h : openL l = some t) (hp : pack t = l) : openA l = (t, true) := by unfold openA; rw [h]; exact if_pos hp
theorem openA_no {l t : List UInt8} (h : openL l = some t) (hp : pack t ≠ l) : openA l = ([], false) := by unfold openA; rw [h]; exact if_neg hp

theorem map_more {x : Option (List UInt8)} {o m : List UInt8} : (x.map (m ++ ·)).map (o ++ ·) = x.map ((o ++ m) ++ ·) := by
  cases x <;> simp

theorem strOf_inj {l : List UInt8} {s : ByteArray} : strOf l = s ↔ l = s.data.toList := by
  constructor
  · intro h; rw [← h, strOf_toList]
  · intro h; rw [h]; rfl

theorem str_diff {l : List UInt8} {s : ByteArray} (h : l ≠ s.data.toList) : (!(strOf l).toList == s.toList) = true := by
  rw [ByteArray.toList_eq, ByteArray.toList_eq, strOf_toList]
  simpa using h
theorem str_same {l : List UInt8} {s : ByteArray} (h : l = s.data.toList) : (!(strOf l).toList == s.toList) = false := by
  rw [ByteArray.toList_eq, ByteArray.toList_eq, strOf_toList]
  simpa using h

theorem own_below {w w' : World} {base n : Nat} {v : Value} {xs : List Value} (h : w.ownsRow base 5 1 v n xs) (hb : Below w.heap.size w w') : w'.ownsRow base 5 1 v n xs := by
  refine h.kept (grown_of hb) ?_
  cases v.ownBlock with
  | none => exact .inl rfl
  | some k => exact .inr (by simp)

set_option maxHeartbeats 1000000 in
theorem spec_open (s : ByteArray) (w : World) (hs : s.size ≤ 1000000000) :
    Calls Try.prog 13 #[.string s] w fun e w' => e = .returned (.tuple #[.string (strOf (openA s.data.toList).1), .bool (openA s.data.toList).2]) ∧ Below w.heap.size w w' := by
  obtain ⟨i0, hi, hz0, hz1, hz2⟩ := info_parts Try.info5
  go_enter Try.func13, Try.ntmps13
  go_wp2
  go_loopg [4, 5] s.size (fun g v i wr => ∃ (k : Nat) (o : List UInt8), g = s.size - k ∧ k ≤ s.size ∧ i = .int .i64 k ∧ wr.ownsRow w.heap.size 5 1 v o.length (cellsOf o) ∧ Below w.heap.size w wr ∧ (openL (s.data.toList.drop k)).map (o ++ ·) = openL s.data.toList ∧ o.length ≤ 3 * k)
  case atStart => exact ⟨0, [], rfl, Nat.zero_le _, rfl, World.ownsRow_made _ #[] 0 (Nat.le_refl _) (by decide) rfl, (Below.refl _ _).alloc (Nat.le_refl _) _, by simp, by simp⟩
  case round =>
    obtain ⟨k, o, rfl, hk, rfl, ho, hb, hp, hol⟩ := hrel
    have hsz := hb.size
    by_cases hlt : k < s.size
    · have hdk := drop_at s k hlt
      by_cases hc : s[k] = 126
      · have hq : ((s[k].toNat : Int) != 126) = false := by rw [hc]; rfl
        by_cases h2 : s.size ≤ k + 2
        · have hE : openA s.data.toList = ([], false) := by
            apply openA_none
            rw [← hp, hdk, hc, openL_short _ (by simp; omega)]
            rfl
          have HE := Lib.hid hE
          have h2' : (s.size : Int) ≤ (k : Int) + 2 := by omega
          clear hp hdk hc hE
          go_wp2_with fail
          go_ret2
          exact ⟨by rw [HE.out]; rfl, hb⟩
        · have hd1 := drop_at s (k + 1) (by omega)
          have hd2 := drop_at s (k + 1 + 1) (by omega)
          have h2' : ¬ (s.size : Int) ≤ (k : Int) + 2 := by omega
          obtain ⟨hc0, hc1⟩ := u8_bd s[k + 1]
          by_cases h3 : 49 ≤ s[k + 1].toNat ∧ s[k + 1].toNat ≤ 57
          · obtain ⟨m, hm⟩ : ∃ m : Nat, s[k + 1].toNat = m + 48 := ⟨s[k + 1].toNat - 48, by omega⟩
            have P1 : (openL (s.data.toList.drop (k + 3))).map ((o ++ List.replicate m s[k + 2]) ++ ·) = openL s.data.toList := by
              rw [← hp, hdk, hd1, hd2, hc, openL_run _ _ _ h3, map_more]
              rw [show s[k + 1].toNat - 48 = m by omega]
            have HP := Lib.hid P1
            have h3l : (49 : Int) ≤ (s[k + 1].toNat : Int) := by omega
            have h3r : (s[k + 1].toNat : Int) ≤ 57 := by omega
            have hk2 : (k : Int) + 2 < (s.size : Int) := by omega
            clear hp hdk hd1 hd2 hc P1
            go_wp2_with fail
            go_loopg [4, 6] m (fun g tv i wx => ∃ j : Nat, g = j ∧ j ≤ m ∧ i = .int .i64 j ∧ wx.ownsRow w.heap.size 5 1 tv (o ++ List.replicate (m - j) s[k + 2]).length (cellsOf (o ++ List.replicate (m - j) s[k + 2])) ∧ Below w.heap.size w wx)
            case atStart => exact ⟨m, rfl, Nat.le_refl _, rfl, by simpa using ho, hb⟩
            case round =>
              obtain ⟨j, hgj, hj, rfl, ho2, hb2⟩ := hrel
              replace hgj := hgj.symm
              subst hgj
              have hsz2 := hb2.size
              have hln : (o ++ List.replicate (m - j) s[k + 2]).length = o.length + (m - j) := by simp
              have HL := Lib.hid hln
              clear hln
              by_cases hj0 : 0 < j
              · have hj0' : (0 : Int) < (j : Int) := by omega
                go_wp2_with (at_builtin; refine wpList_append_own_at _ rfl _ _ 27 rfl w.heap.size 5 i0 (.int .u8 0) 1 1 Try.underlying27 hi hz0 hz1 hz2 rfl (by decide) _ _ _ rfl (ho2.alloc _) ⟨wr.heap.size, 0, none⟩ 1 1 [.int .u8 (s[k + 2].toNat : Int)] rfl rfl (cell_one_new _ _ _) (by simp [Value.oneCell']) (by rw [HL.out]; unfold maxLen; omega) (by rw [HL.out]; omega) (by simp; omega) ?_)
                intro v' w1 hown' hgrow _ hat
                have R := own_snoc hown' (m := [s[k + 2]]) rfl (by simp)
                rw [rep_snoc] at R
                have B1 : Below w.heap.size w w1 := (hb2.alloc hsz2 _).grown hgrow (by simp; omega) (fun j e => (ho2.lt j e).1)
                clear hown' hgrow hat ho2 hb2
                go_wp2
                go_roundg (j - 1)
                case measure => omega
                case rel => exact ⟨j - 1, by omega, by omega, by go_num, by rw [show m - (j - 1) = m - j + 1 by omega]; exact R, B1⟩
              · obtain rfl : j = 0 := by omega
                simp only [Nat.sub_zero] at ho2
                have hl9 : (o ++ List.replicate m s[k + 2]).length ≤ 3 * (k + 3) := by simp; omega
                clear ho
                go_wp2_with fail
                go_roundg (s.size - (k + 3))
                case measure => omega
                case rel => exact ⟨k + 3, _, rfl, by omega, by go_num, ho2, hb2, HP.out, hl9⟩
          · have hE : openA s.data.toList = ([], false) := by
              apply openA_none
              rw [← hp, hdk, hd1, hd2, hc, openL_bad _ _ _ h3]
              rfl
            have HE := Lib.hid hE
            clear hp hdk hc hE hd1 hd2
            by_cases h4 : s[k + 1].toNat < 49
            · have h4' : (s[k + 1].toNat : Int) < 49 := by omega
              go_wp2_with fail
              go_ret2
              exact ⟨by rw [HE.out]; rfl, hb⟩
            · have h4' : ¬ (s[k + 1].toNat : Int) < 49 := by omega
              have h5' : (57 : Int) < (s[k + 1].toNat : Int) := by omega
              go_wp2_with fail
              go_ret2
              exact ⟨by rw [HE.out]; rfl, hb⟩
      · have hq : ((s[k].toNat : Int) != 126) = true := by
          simp only [bne_iff_ne, ne_eq]
          intro h
          exact hc (UInt8.toNat_inj.1 (by have : s[k].toNat = 126 := by omega
                                          rw [this]; rfl))
        have P1 : (openL (s.data.toList.drop (k + 1))).map ((o ++ [s[k]]) ++ ·) = openL s.data.toList := by
          rw [← hp, hdk, openL_lit _ _ hc, map_more]
        have HP := Lib.hid P1
        clear hp hdk hc P1
        go_wp2_with (at_builtin; refine wpList_append_own_at _ rfl _ _ 27 rfl w.heap.size 5 i0 (.int .u8 0) 1 1 Try.underlying27 hi hz0 hz1 hz2 rfl (by decide) _ _ _ rfl (ho.alloc _) ⟨wr.heap.size, 0, none⟩ 1 1 [.int .u8 (s[k].toNat : Int)] rfl rfl (cell_one_new _ _ _) (by simp [Value.oneCell']) (by unfold maxLen; omega) (by omega) (by simp; omega) ?_)
        intro v' w1 hown' hgrow _ hat
        have R := own_snoc hown' (m := [s[k]]) rfl rfl
        have B1 : Below w.heap.size w w1 := (hb.alloc hsz _).grown hgrow (by simp; omega) (fun j e => (ho.lt j e).1)
        clear hown' hgrow hat ho hb
        go_wp2
        go_roundg (s.size - (k + 1))
        case measure => omega
        case rel => exact ⟨k + 1, _, rfl, by omega, by go_num, R, B1, HP.out, by simp; omega⟩
    · have hk' : s.data.toList.drop k = [] := by simp; omega
      have hE : openL s.data.toList = some o := by rw [← hp, hk', openL_nil]; simp
      have hcv := conv_own ho
      have hS := fun w => spec_pack (strOf o) w (by rw [strOf_size]; omega)
      rw [strOf_toList] at hS
      by_cases hy : pack o = s.data.toList
      · have HE := Lib.hid (openA_yes hE hy)
        have hy' := str_same hy
        clear hk' hp hE hy
        go_wp2_with (go_at_call 11; refine (hS _).mono ?_; rintro e w1 ⟨rfl, hb1⟩; have hcv1 := conv_own (own_below ho hb1))
        go_ret2
        exact ⟨by rw [HE.out]; rfl, hb.trans (hb1.mono hsz)⟩
      · have HE := Lib.hid (openA_no hE hy)
        have hy' := str_diff hy
        clear hk' hp hE hy
        go_wp2_with (go_at_call 11; refine (hS _).mono ?_; rintro e w1 ⟨rfl, hb1⟩)
        go_ret2
        exact ⟨by rw [HE.out]; rfl, hb.trans (hb1.mono hsz)⟩

end Go.Proofs.Ytgnpeoddnahnpaa
