/-
  StripeCut, the model's and the program's, answers the columns of a block.
-/
import Derived.Test.YtohfadgbmlfcmaaCutI
namespace Go.Proofs.Ytohfadgbmlfcmaa
open Go.RowKit

theorem blockB_iff (t : ByteArray) : blockB t = true ↔ 1 ≤ t.size ∧ t.size ≤ 128 := by
  unfold blockB inB
  simp only [decide_eq_true_eq]
  omega
def cutD (t : ByteArray) : List ByteArray := if blockB t = true then texts3 t.data.toList else []
/-- Some texts in memory of the call's own, and whether it went well. -/
def PairPost (ss : List ByteArray) (b : Bool) (w : World) (r : Ending) (w' : World) : Prop :=
  ∃ A c, r = .returned (.tuple #[.slice A ss.length c, .bool b]) ∧ w'.ownsRow w.heap.size 9 1 (.slice A ss.length c) ss.length (strCells ss) ∧ Below w.heap.size w w'

set_option maxRecDepth 100000 in
set_option maxHeartbeats 2000000 in
theorem spec_cut (t : ByteArray) (w : World) (h : t.size ≤ maxLen) : Calls Try.prog 9 #[.string t] w (PairPost (cutD t) (blockB t) w) := by
  by_cases hb : blockB t = true
  · have hs := (blockB_iff t).1 hb
    have hB := fun w => l2_block t w h
    have hC := fun w => l4_cut t w hs.2
    have e : cutD t = texts3 t.data.toList := if_pos hb
    rw [e]
    rw [hb]
    rw [hb] at hB
    obtain ⟨ss, hss⟩ : ∃ ss, ss = texts3 t.data.toList := ⟨_, rfl⟩
    rw [← hss] at hC ⊢
    clear hb hs e hss
    go_enter Try.func9, Try.ntmps9
    go_wp2_with (first
      | (go_at_call 24; refine (hB _).mono ?_; rintro r w' ⟨rfl, rfl⟩)
      | (go_at_call 25; refine (hC _).mono ?_; rintro r w2 ⟨A, c, rfl, ho, hb2⟩))
    go_ret2
    exact ⟨A, c, rfl, ho, hb2⟩
  · have hbf : blockB t = false := by simpa using hb
    have hB := fun w => l2_block t w h
    have e : cutD t = [] := if_neg hb
    rw [e]
    rw [hbf]
    rw [hbf] at hB
    clear hb hbf e
    go_enter Try.func9, Try.ntmps9
    go_wp2_with (go_at_call 24; refine (hB _).mono ?_; rintro r w' ⟨rfl, rfl⟩)
    go_ret2
    exact ⟨_, _, rfl, World.ownsRow_made (e := 9) (base := w'.heap.size) w' (size := 1) #[] 0 (Nat.le_refl _) (by decide) rfl, bel_new (Below.refl _ _) _⟩

theorem texts3_at (l : List UInt8) (k : Nat) (h : k < 3) : (texts3 l)[k]? = some (colT l (k : Int)) := by
  rcases (show k = 0 ∨ k = 1 ∨ k = 2 by omega) with rfl | rfl | rfl <;> rfl
theorem zeros_next (l : List UInt8) (k : Nat) (h : k < 3) :
    (strCells ((texts3 l).take k) ++ List.replicate (3 - k) (Value.string ⟨#[]⟩)).set k (Value.string (colT l (k : Int))) = strCells ((texts3 l).take (k + 1)) ++ List.replicate (3 - (k + 1)) (Value.string ⟨#[]⟩) := by
  rcases (show k = 0 ∨ k = 1 ∨ k = 2 by omega) with rfl | rfl | rfl <;> rfl

set_option maxRecDepth 100000 in
set_option maxHeartbeats 2000000 in
theorem impl_cut (t : ByteArray) (w : World) (h : t.size ≤ maxLen) : Calls Try.prog 10 #[.string t] w (PairPost (cutD t) (blockB t) w) := by
  by_cases hb : blockB t = true
  · obtain ⟨i0, hi, hz0, hz1, hz2⟩ := info_parts Try.info9
    have hs := (blockB_iff t).1 hb
    have hB := fun w => block_ok t w h
    have hC := fun w => cutter_any t w hs.2
    have e : cutD t = texts3 t.data.toList := if_pos hb
    rw [e]
    rw [hb]
    rw [hb] at hB
    have hl : t.data.toList.length ≤ 128 := by rw [Array.length_toList]; exact hs.2
    obtain ⟨l, hle⟩ : ∃ l, l = t.data.toList := ⟨_, rfl⟩
    rw [← hle] at hC hl ⊢
    have HL := Lib.hid hl
    clear hb hs e hle hl
    go_enter Try.func10, Try.ntmps10
    go_wp2_with (first
      | (go_at_call 26; refine (hB _).mono ?_; rintro r w' ⟨rfl, rfl⟩)
      | (refine wpList_make_full _ rfl _ _ 22 rfl w'.heap.size 9 i0 (.string ⟨#[]⟩) 1 Try.underlying22 hi hz0 hz1 _ _ _ _ 3 rfl rfl rfl rfl (by rw [hz2]; omega) (by unfold maxLen; omega) (Nat.le_refl _) ?_; intro w1 hown hgrow; rw [made_strs] at hown; refine Hid.out ?_))
    refine Lib.hid ?_
    have bb : Below w'.heap.size w' w1 := (Below.refl _ _).grown hgrow (Nat.le_refl _) (fun k e => by cases e)
    have hlt := (hown.lt w'.heap.size rfl).2
    go_wp2_with (go_at_call 27; refine (hC _).mono ?_; rintro r w2 ⟨F, rfl, hF, hb2⟩; refine Hid.out ?_)
    refine Lib.hid ?_
    have ho2 := own_bel hown hb2
    have b2 := bel_then bb hb2
    clear hown bb hb2 hgrow hC
    obtain ⟨base, hbase⟩ : ∃ x, x = w1.heap.size := ⟨_, rfl⟩
    rw [← hbase] at hF hlt
    clear hbase
    go_wp2_with fail
    go_loopw [15] (fun i wr => ∃ k : Nat, k ≤ 3 ∧ i = .int .i64 (k : Int) ∧ wr.ownsRow w'.heap.size 9 1 (.slice (some ⟨w'.heap.size, 0, none⟩) 3 3) 3 (strCells ((texts3 l).take k) ++ List.replicate (3 - k) (Value.string ⟨#[]⟩)) ∧ IsCut wr base F l ∧ Below w'.heap.size w' wr) (fun i _ => 3 - (intOf i).toNat)
    case atStart => exact ⟨0, by omega, rfl, ho2, hF, b2⟩
    case round =>
      clear ho2 hF b2
      obtain ⟨k, hk, rfl, ho, hF, hbw⟩ := hrel
      by_cases hlt3 : k < 3
      · obtain ⟨a, b, c, rfl, h0, h1, h2, h3, e1, e2, e3⟩ := id hF
        have hM := cut_col l (k : Int) a b c wr HL.out e1 e2 e3
        obtain ⟨x, hx⟩ : ∃ x, x = colT l (k : Int) := ⟨_, rfl⟩
        rw [← hx] at hM
        have hk3 : (k : Int) < 3 := by omega
        have HX := Lib.hid hx
        clear hx h0 h1 h2 h3 e1 e2 e3
        go_wp2_with (go_at_call 40; refine hM.mono ?_; rintro r w3 ⟨rfl, hb3⟩; refine Hid.out ?_)
        refine Lib.hid ?_
        have ho3 := own_bel ho hb3
        have hF3 := hF.below hb3
        have bw3 := bel_then hbw hb3
        clear ho hF hbw hM hb3
        have hlen := ho3.1
        have hcg : ∃ y, w3.cell? ⟨w'.heap.size, k, none⟩ = some y := ⟨_, by rw [ho3.cellAt k (by omega)]; exact List.getElem?_eq_getElem (by omega)⟩
        obtain ⟨y, hcg⟩ := hcg
        have hfg := ho3.frozenAt k
        have hst := (ho3.stored k (.string x)).1
        have hsg := (ho3.stored k (.string x)).2
        have hzn := zeros_next l k hlt3
        rw [← HX.out] at hzn
        rw [hzn] at hst
        have B1 : Below w'.heap.size w' (w3.setCell ⟨w'.heap.size, k, none⟩ (.string x)) := bw3.setCell (p := ⟨w'.heap.size, k, none⟩) (Nat.le_refl _) _
        have F1 := hF3.grown hsg hlt
        clear hlen ho3 hF3 bw3 hzn hsg
        go_wp2_with fail
        go_roundw
        case rel => exact ⟨k + 1, by omega, by go_num, hst, F1, B1⟩
        case measure => simp [intOf]; omega
      · have hke : k = 3 := by omega
        subst hke
        have ho4 : wr.ownsRow w'.heap.size 9 1 (.slice (some ⟨w'.heap.size, 0, none⟩) 3 3) 3 (strCells (texts3 l)) := ho
        clear ho hF
        go_wp2_with fail
        go_ret2
        exact ⟨_, _, rfl, ho4, hbw⟩
  · have hbf : blockB t = false := by simpa using hb
    have hB := fun w => block_ok t w h
    have e : cutD t = [] := if_neg hb
    rw [e]
    rw [hbf]
    rw [hbf] at hB
    clear hb hbf e
    go_enter Try.func10, Try.ntmps10
    go_wp2_with (go_at_call 26; refine (hB _).mono ?_; rintro r w' ⟨rfl, rfl⟩)
    go_ret2
    exact ⟨_, _, rfl, ⟨rfl, .inl ⟨rfl, rfl⟩⟩, Below.refl _ _⟩
end Go.Proofs.Ytohfadgbmlfcmaa
