/-
  The model's cut of a text at each byte of a kind: a row of its own that holds the pieces.
-/
import Derived.Test.YtehmaacbmkfedaaDoorRows9
namespace Go.Proofs.YtehmaacbmkfedaaDoor
open Go.RowKit

theorem cut_hit {s : ByteArray} {c : UInt8} {ss : List ByteArray} {f i : Nat} (h : cutsB c s = ss ++ (cutA c ((s.data.toList.drop f).take (i - f)) (s.data.toList.drop i)).map strOf) (hi : i < s.size) (hc : s[i] = c) :
    cutsB c s = (ss ++ [s.extract f i]) ++ (cutA c ((s.data.toList.drop (i + 1)).take (i + 1 - (i + 1))) (s.data.toList.drop (i + 1))).map strOf := by
  rw [h, drop_at s i hi, hc, cutA_hit, List.map_cons, ← ext_of, Nat.sub_self, List.take_zero, List.append_assoc]
  rfl
theorem cut_miss {s : ByteArray} {c : UInt8} {ss : List ByteArray} {f i : Nat} (h : cutsB c s = ss ++ (cutA c ((s.data.toList.drop f).take (i - f)) (s.data.toList.drop i)).map strOf) (hf : f ≤ i) (hi : i < s.size) (hc : s[i] ≠ c) :
    cutsB c s = ss ++ (cutA c ((s.data.toList.drop f).take (i + 1 - f)) (s.data.toList.drop (i + 1))).map strOf := by
  have e : (s.data.toList.drop f).take (i + 1 - f) = (s.data.toList.drop f).take (i - f) ++ [s[i]] := by
    rw [show i + 1 - f = (i - f) + 1 by omega, List.take_add_one, List.getElem?_drop, show f + (i - f) = i by omega, List.getElem?_eq_getElem (by simpa using hi)]
    rfl
  rw [h, drop_at s i hi, cutA_miss _ _ hc, e]
theorem cut_end {s : ByteArray} {c : UInt8} {ss : List ByteArray} {f : Nat} (h : cutsB c s = ss ++ (cutA c ((s.data.toList.drop f).take (s.size - f)) (s.data.toList.drop s.size)).map strOf) : cutsB c s = ss ++ [s.extract f s.size] := by
  rw [h, show s.data.toList.drop s.size = [] from List.drop_of_length_le (by simp), ext_of]
  rfl

set_option maxRecDepth 100000 in
set_option maxHeartbeats 1000000 in
theorem spec_cut (s : ByteArray) (c : UInt8) (w : World) (hs : s.size ≤ 1048576) :
    Calls Tryd.prog 53 #[.string s, .int .u8 (c.toNat : Int)] w fun e w' => ∃ g cap, e = .returned (.slice (some ⟨g, 0, none⟩) (cutsB c s).length cap) ∧ w'.ownsRow w.heap.size 9 1 (.slice (some ⟨g, 0, none⟩) (cutsB c s).length cap) (cutsB c s).length (strCellsOf (cutsB c s)) ∧ Below w.heap.size w w' := by
  obtain ⟨i0, hi, hz0, hz1, hz2⟩ := info_parts Tryd.info9
  have o1 := World.ownsRow_made (e := 9) (base := w.heap.size) w (size := 1) #[] 0 (Nat.le_refl _) (by decide) rfl
  go_enter Tryd.func53, Tryd.ntmps53
  go_wp2
  go_loopg [5, 6, 7] s.size (fun gh b f i wr => ∃ (ss : List ByteArray) (F I g cp : Nat), gh = s.size - I ∧ i = .int .i64 I ∧ f = .int .i64 F ∧ b = .slice (some ⟨g, 0, none⟩) ss.length cp ∧ F ≤ I ∧ I ≤ s.size ∧ ss.length ≤ I ∧ cutsB c s = ss ++ (cutA c ((s.data.toList.drop F).take (I - F)) (s.data.toList.drop I)).map strOf ∧ wr.ownsRow w.heap.size 9 1 (.slice (some ⟨g, 0, none⟩) ss.length cp) ss.length (strCellsOf ss) ∧ Below w.heap.size w wr)
  case atStart => exact ⟨[], 0, 0, w.heap.size, 0, by omega, rfl, rfl, rfl, by omega, by omega, by simp, rfl, o1, bel_fresh w⟩
  case round =>
    clear o1
    obtain ⟨ss, F, I, g, cp, hg, rfl, rfl, rfl, hFI, hIs, hsI, hcut, ho, hb⟩ := hrel
    have HG := Lib.hid hg
    clear hg
    have s1 := hb.size
    by_cases hlt : I < s.size
    · have hlt' : (I : Int) < (s.size : Int) := by omega
      by_cases hc : s[I] = c
      · have H2 := Lib.hid (cut_hit hcut hlt hc)
        have hq : ((s[I].toNat : Int) == (c.toNat : Int)) = true := by rw [hc]; simp
        obtain ⟨p, hp⟩ : ∃ p, p = s.extract F I := ⟨_, rfl⟩
        rw [← hp] at H2
        have hp2 := hp.symm
        clear hcut hc hp
        go_wp2_with (at_builtin; refine wpList_append_own_at _ rfl _ _ 52 rfl w.heap.size 9 i0 (.string ⟨#[]⟩) 1 16 Tryd.underlying52 hi hz0 hz1 hz2 rfl (by decide) _ _ _ rfl (ho.alloc _) ⟨wr.heap.size, 0, none⟩ 1 1 [.string p] rfl rfl (cell_one_new _ _ _) (by simp [Value.oneCell']) (by unfold maxLen; omega) (by omega) (by simp; omega) ?_)
        intro v' w4 hown' hgrow _ hat
        have R := own_str hown'
        have B4 : Below w.heap.size w w4 := bel_row (hb.alloc hb.size _) (ho.alloc _) (Nat.le_refl _) hgrow
        obtain ⟨g4, c4, rfl⟩ := own_formt R (by simp)
        clear hown' hgrow hat ho hb
        go_wp2
        go_roundg (s.size - (I + 1))
        case measure => have := HG.out; omega
        case rel => exact ⟨ss ++ [p], I + 1, I + 1, g4, c4, rfl, by go_num, by go_num, rfl, by omega, by omega, by simp; omega, H2.out, R, B4⟩
      · have H2 := Lib.hid (cut_miss hcut hFI hlt hc)
        have hq : ((s[I].toNat : Int) == (c.toNat : Int)) = false := by
          rw [beq_eq_false_iff_ne]
          intro h
          exact hc (UInt8.toNat_inj.1 (by omega))
        clear hcut hc
        go_wp2_with fail
        go_roundg (s.size - (I + 1))
        case measure => have := HG.out; omega
        case rel => exact ⟨ss, F, I + 1, g, cp, rfl, by go_num, rfl, rfl, by omega, by omega, by omega, H2.out, ho, hb⟩
    · obtain rfl : I = s.size := by omega
      have H2 := Lib.hid (cut_end hcut)
      obtain ⟨p, hp⟩ : ∃ p, p = s.extract F s.size := ⟨_, rfl⟩
      rw [← hp] at H2
      have hp2 := hp.symm
      clear hcut hp
      go_wp2_with (at_builtin; refine wpList_append_own_at _ rfl _ _ 52 rfl w.heap.size 9 i0 (.string ⟨#[]⟩) 1 16 Tryd.underlying52 hi hz0 hz1 hz2 rfl (by decide) _ _ _ rfl (ho.alloc _) ⟨wr.heap.size, 0, none⟩ 1 1 [.string p] rfl rfl (cell_one_new _ _ _) (by simp [Value.oneCell']) (by unfold maxLen; omega) (by omega) (by simp; omega) ?_)
      intro v' w4 hown' hgrow _ hat
      have R := own_str hown'
      have B4 : Below w.heap.size w w4 := bel_row (hb.alloc hb.size _) (ho.alloc _) (Nat.le_refl _) hgrow
      obtain ⟨g4, c4, rfl⟩ := own_formt R (by simp)
      clear hown' hgrow hat ho hb
      go_wp2
      go_ret
      rw [H2.out]
      exact ⟨g4, c4, by simp, R, B4⟩

end Go.Proofs.YtehmaacbmkfedaaDoor
