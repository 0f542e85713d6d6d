/-
  spec.RunsPack answers the packed text at every text shorter than 2^32 bytes.
-/
import Derived.Test.YtgnpeoddnahnpaaRows2
import Derived.Deep.DeepCutAuto
import Derived.Deep.CutBlock
import Derived.Deep.LoopGhost
import Derived.IntWalk
namespace Go.Proofs.Ytgnpeoddnahnpaa
open Go.RowKit

def strOf (l : List UInt8) : ByteArray := ⟨l.toArray⟩
theorem strOf_toList (l : List UInt8) : (strOf l).data.toList = l := by simp [strOf]
theorem strOf_size (l : List UInt8) : (strOf l).size = l.length := by simp [strOf, ByteArray.size]
theorem strOf_nums (l : List UInt8) : strOfNums (l.map fun c => (c.toNat : Int)) = strOf l := by
  unfold strOfNums strOf
  congr 2
  rw [List.map_map]
  conv => rhs; rw [← List.map_id l]
  apply List.map_congr_left
  intro c _
  simp

theorem conv_own {w : World} {base n : Nat} {v : Value} {l : List UInt8} (h : w.ownsRow base 5 1 v n (cellsOf l)) :
    (convert 27 9 v).run Try.prog w = .ok (.string (strOf l)) w := by
  have hl := h.1
  rw [cellsOf_len] at hl
  have hc := fun g hg => h.cells (g := g) hg
  rcases h.2 with ⟨rfl, rfl⟩ | ⟨g, cap, cur, rfl, _⟩
  · have : l = [] := List.eq_nil_of_length_eq_zero (by omega)
    subst this
    exact run_convert_bytes_nil w 27 5 Try.underlying27 Try.underlying5 0 0 9 Try.underlying9
  · have hr := run_convert_bytes_arg (P := Try.prog) w 27 5 Try.underlying27 Try.underlying5 g 0 n cap (l.map fun c => (c.toNat : Int)) (by simp; omega) (fun i hi => by
      have hh := hc g rfl i (.int .u8 ((l[i]'(by omega)).toNat : Int)) (by simp [cellsOf, List.getElem?_map, List.getElem?_eq_getElem (show i < l.length by omega)])
      have hplain : (⟨g, 0, none⟩ : Addr).add i = ⟨g, 0 + i, none⟩ := by unfold Addr.add; split <;> simp_all
      rw [hplain] at hh
      rw [hh]
      simp [List.getD, List.getElem?_map, List.getElem?_eq_getElem (show i < l.length by omega)]) 9 Try.underlying9
    rw [hr, strOf_nums]

theorem cell_three_new (w : World) (x y z : Value) (t : TypeId) : ∀ j u, [x, y, z][j]? = some u → (w.alloc (.cells #[x, y, z] t)).cell? ((⟨w.heap.size, 0, none⟩ : Addr).add j) = some u := by
  intro j u hj
  match j, hj with
  | 0, hj => simp at hj; subst hj; simp [Addr.add]
  | 1, hj => simp at hj; subst hj; simp [Addr.add]
  | 2, hj => simp at hj; subst hj; simp [Addr.add]

theorem pack_news (m : Nat) (c : UInt8) (hm : m ≤ 9) : [Value.int .u8 126, .int .u8 (48 + (m : Int)), .int .u8 (c.toNat : Int)] = cellsOf [126, UInt8.ofNat (48 + m), c] := by
  have h : (UInt8.ofNat (48 + m)).toNat = 48 + m := by simp; omega
  simp only [cellsOf, List.map_cons, List.map_nil, h]
  rfl

set_option maxHeartbeats 400000 in
theorem spec_pack (s : ByteArray) (w : World) (hs : s.size ≤ 4294967296) :
    Calls Try.prog 11 #[.string s] w fun e w' => e = .returned (.string (strOf (pack s.data.toList))) ∧ Below w.heap.size w w' := by
  obtain ⟨i0, hi, hz0, hz1, hz2⟩ := info_parts Try.info5
  go_enter Try.func11, Try.ntmps11
  go_wp2
  go_loopg [3, 4] s.size (fun g v i wr => ∃ (k : Nat) (o : List UInt8), g = s.size - k ∧ k ≤ s.size ∧ i = .int .i64 k ∧ wr.ownsRow w.heap.size 5 1 v o.length (cellsOf o) ∧ Below w.heap.size w wr ∧ o ++ pack (s.data.toList.drop k) = pack s.data.toList ∧ o.length ≤ 3 * k)
  case atStart => exact ⟨0, [], rfl, Nat.zero_le _, rfl, World.ownsRow_made _ #[] 0 (Nat.le_refl _) (by decide) rfl, (Below.refl _ _).alloc (Nat.le_refl _) _, by simp, by simp⟩
  case round =>
    obtain ⟨k, o, rfl, hk, rfl, ho, hb, hp, hol⟩ := hrel
    by_cases hlt : k < s.size
    · have hdk := drop_at s k hlt
      have hr0 : rl (s.data.toList.drop k) = 1 + rlc s[k] (9 - 1) (s.data.toList.drop (k + 1)) := by rw [hdk]; exact Nat.add_comm _ _
      have hbd := rl_bd (s.data.toList.drop k) (by simp; omega)
      simp only [List.length_drop, Array.length_toList, ByteArray.size_data] at hbd
      have HD := Lib.hid hdk
      have HR0 := Lib.hid hr0
      have HP := Lib.hid hp
      clear hdk hr0 hp
      go_upto_block 2 with fail
      go_cut [5] (fun n wx => n = .int .i64 (rl (s.data.toList.drop k)) ∧ ∃ q, wx = wr.drewN q)
      case first =>
        go_wp2_with fail
        go_loopg [5] 8 (fun g i wx => ∃ n : Nat, g = 9 - n ∧ 1 ≤ n ∧ n ≤ 9 ∧ k + n ≤ s.size ∧ i = .int .i64 n ∧ rl (s.data.toList.drop k) = n + rlc s[k] (9 - n) (s.data.toList.drop (k + n)) ∧ ∃ q, wx = wr.drewN q)
        case atStart => exact ⟨1, by omega, by omega, by omega, by omega, rfl, HR0.out, 0, rfl⟩
        case round =>
          obtain ⟨n, rfl, hn1, hn9, hns, rfl, hrl, q, rfl⟩ := hrel
          have hr := rlc_le s[k] (9 - n) (s.data.toList.drop (k + n))
          by_cases h2 : n < 9
          · have hd : decide ((n : Int) < 9) = true := by simp; omega
            by_cases h1 : k + n < s.size
            · have hd1 : decide ((k : Int) + (n : Int) < (s.size : Int)) = true := by simp; omega
              have hdr := drop_at s (k + n) h1
              obtain ⟨m, hm⟩ : ∃ m, 9 - n = m + 1 := ⟨8 - n, by omega⟩
              have hm' : 9 - (n + 1) = m := by omega
              by_cases h3 : s[k + n] = s[k]
              · have hq : ((s[k + n].toNat : Int) == (s[k].toNat : Int)) = true := by rw [h3]; simp
                rw [hdr, hm, h3, rlc_hit] at hrl
                have HR := Lib.hid hrl
                have HM := Lib.hid hm'
                clear hrl hdr hm hm' hr h3
                have hw := IntWalk.i64_in ((k : Int) + (n : Int)) (by omega)
                have hw0 : 0 ≤ (k : Int) + (n : Int) := by omega
                have hw1 : ((k : Int) + (n : Int)).toNat = k + n := by omega
                have hw2 : (k : Int) + (n : Int) < (s.size : Int) := by omega
                go_wp2_with fail
                go_quiet (fail)
                clear hw
                go_wp2_with fail
                go_roundg (9 - (n + 1))
                case measure => omega
                case rel => exact ⟨n + 1, rfl, by omega, by omega, by omega, by go_num, by rw [HR.out, HM.out, Nat.add_assoc k n 1]; omega, _, rfl⟩
              · have hq : ((s[k + n].toNat : Int) == (s[k].toNat : Int)) = false := by
                  simp only [beq_eq_false_iff_ne, ne_eq]
                  intro h
                  exact h3 (UInt8.toNat_inj.1 (by omega))
                rw [hdr, hm, rlc_miss _ _ _ _ h3] at hrl
                have HR := Lib.hid hrl
                clear hrl hdr hm hm' hr h3
                have hw := IntWalk.i64_in ((k : Int) + (n : Int)) (by omega)
                have hw0 : 0 ≤ (k : Int) + (n : Int) := by omega
                have hw1 : ((k : Int) + (n : Int)).toNat = k + n := by omega
                have hw2 : (k : Int) + (n : Int) < (s.size : Int) := by omega
                go_wp2_with fail
                go_quiet (fail)
                clear hw
                go_wp2_with fail
                go_meet
                exact ⟨by rw [HR.out]; rfl, _, World.drewN_drewN _ _ _⟩
            · have hd1 : decide ((k : Int) + (n : Int) < (s.size : Int)) = false := by simp; omega
              have hz : (s.data.toList.drop (k + n)).length = 0 := by simp; omega
              have hrl' : rl (s.data.toList.drop k) = n := by omega
              have HR := Lib.hid hrl'
              clear hrl hrl' hr hz
              have hw := IntWalk.i64_in ((k : Int) + (n : Int)) (by omega)
              go_wp2_with fail
              go_quiet (fail)
              go_wp2_with fail
              go_meet
              exact ⟨by rw [HR.out], _, World.drewN_drewN _ _ _⟩
          · have hd : decide ((n : Int) < 9) = false := by simp; omega
            have hrl' : rl (s.data.toList.drop k) = n := by omega
            have HR := Lib.hid hrl'
            clear hrl hrl' hr
            go_wp2_with fail
            go_quiet (fail)
            go_wp2_with fail
            go_meet
            exact ⟨by rw [HR.out], _, World.drewN_drewN _ _ _⟩
      case rest =>
        obtain ⟨rfl, q, rfl⟩ := hcut
        obtain ⟨m, hm⟩ : ∃ m, m = rl (s.data.toList.drop k) := ⟨_, rfl⟩
        rw [← hm] at hbd ⊢
        have HM := Lib.hid hm
        clear hm
        obtain ⟨hm1, hm9, hmk⟩ := hbd
        have hsz := hb.size
        by_cases hy : 4 ≤ m ∨ s[k] = 126
        · have hyk : (4 ≤ m ∧ True) ∨ (¬ 4 ≤ m ∧ s[k] = 126) := by
            by_cases h4 : 4 ≤ m
            · exact .inl ⟨h4, trivial⟩
            · exact .inr ⟨h4, hy.resolve_left h4⟩
          have hyd : (s.data.toList.drop k) = s[k] :: s.data.toList.drop (k + 1) := HD.out
          have P1 : (o ++ [126, UInt8.ofNat (48 + m), s[k]]) ++ pack (s.data.toList.drop (k + m)) = pack s.data.toList := by
            rw [← HP.out, ← List.drop_drop, hyd, pack_yes _ _ (by rw [← hyd, ← HM.out]; exact hy), List.append_assoc, ← hyd, ← HM.out]
          have H3 := Lib.hid P1
          clear P1 hyd hy
          rcases hyk with ⟨h4, _⟩ | ⟨h4, hq⟩
          · have h4' : (4 : Int) ≤ (m : Int) := by omega
            go_wp2_with (at_builtin; refine wpList_append_own_at _ rfl _ _ 27 rfl w.heap.size 5 i0 (.int .u8 0) 1 1 Try.underlying27 hi hz0 hz1 hz2 rfl (by decide) _ _ _ rfl (World.ownsRow.alloc (w := wr.drewN q) ho _) ⟨wr.heap.size, 0, none⟩ 3 3 _ rfl rfl (cell_three_new _ _ _ _ _) (by simp [Value.oneCell']) (by unfold maxLen; omega) (by omega) (by simp; omega) ?_)
            intro v' w1 hown' hgrow _ hat
            have R := own_snoc hown' (m := [126, UInt8.ofNat (48 + m), s[k]]) (pack_news m _ hm9) rfl
            have B1 : Below w.heap.size w w1 := ((below_drewN hb q).alloc hsz _).grown hgrow (by simp; omega) (fun j e => (ho.lt j e).1)
            clear hown' hgrow hat ho hb
            go_wp2
            go_roundg (s.size - (k + m))
            case measure => omega
            case rel => exact ⟨k + m, _, rfl, by omega, by go_num, R, B1, H3.out, by simp; omega⟩
          · have h4' : ¬ (4 : Int) ≤ (m : Int) := by omega
            have hq' : ((s[k].toNat : Int) == 126) = true := by rw [hq]; rfl
            clear hq
            go_wp2_with (at_builtin; refine wpList_append_own_at _ rfl _ _ 27 rfl w.heap.size 5 i0 (.int .u8 0) 1 1 Try.underlying27 hi hz0 hz1 hz2 rfl (by decide) _ _ _ rfl (World.ownsRow.alloc (w := wr.drewN q) ho _) ⟨wr.heap.size, 0, none⟩ 3 3 _ rfl rfl (cell_three_new _ _ _ _ _) (by simp [Value.oneCell']) (by unfold maxLen; omega) (by omega) (by simp; omega) ?_)
            intro v' w1 hown' hgrow _ hat
            have R := own_snoc hown' (m := [126, UInt8.ofNat (48 + m), s[k]]) (pack_news m _ hm9) rfl
            have B1 : Below w.heap.size w w1 := ((below_drewN hb q).alloc hsz _).grown hgrow (by simp; omega) (fun j e => (ho.lt j e).1)
            clear hown' hgrow hat ho hb
            go_wp2
            go_roundg (s.size - (k + m))
            case measure => omega
            case rel => exact ⟨k + m, _, rfl, by omega, by go_num, R, B1, H3.out, by simp; omega⟩
        · have h4 : ¬ (4 : Int) ≤ (m : Int) := by omega
          have hq : ((s[k].toNat : Int) == 126) = false := by
            simp only [beq_eq_false_iff_ne, ne_eq]
            intro h
            exact hy (.inr (UInt8.toNat_inj.1 (by have : s[k].toNat = 126 := by omega
                                                  rw [this]; rfl)))
          go_wp2_with (at_builtin; refine wpList_append_own_at _ rfl _ _ 27 rfl w.heap.size 5 i0 (.int .u8 0) 1 1 Try.underlying27 hi hz0 hz1 hz2 rfl (by decide) _ _ _ rfl (World.ownsRow.alloc (w := wr.drewN q) ho _) ⟨wr.heap.size, 0, none⟩ 1 1 [.int .u8 (s[k].toNat : Int)] rfl rfl (cell_one_new _ _ _) (by simp [Value.oneCell']) (by unfold maxLen; omega) (by omega) (by simp; omega) ?_)
          intro v' w1 hown' hgrow _ hat
          have R := own_snoc hown' (m := [s[k]]) rfl rfl
          have B1 : Below w.heap.size w w1 := ((below_drewN hb q).alloc hsz _).grown hgrow (by simp; omega) (fun j e => (ho.lt j e).1)
          have P1 : (o ++ [s[k]]) ++ pack (s.data.toList.drop (k + 1)) = pack s.data.toList := by
            rw [← HP.out, HD.out, pack_no _ _ (by rw [← HD.out, ← HM.out]; exact hy), List.append_assoc]
          clear hown' hgrow hat ho hb hy
          go_wp2
          go_roundg (s.size - (k + 1))
          case measure => omega
          case rel => exact ⟨k + 1, _, rfl, by omega, by go_num, R, B1, P1, by simp; omega⟩
    · have hk' : s.data.toList.drop k = [] := by simp; omega
      have he : o = pack s.data.toList := by rw [← hp, hk', pack_nil, List.append_nil]
      have HE := Lib.hid he
      clear hp hk' he
      have hcv := conv_own ho
      go_wp2_with fail
      go_ret
      exact ⟨by rw [HE.out]; rfl, hb⟩
end Go.Proofs.Ytgnpeoddnahnpaa
