/-
  FnFieldsApart, its walk: unlike records have unlike texts.
-/
import Derived.Test.YtgnpeoddnahnpaaDoorJoinWalk
import Derived.Test.YtgnpeoddnahnpaaDoorRecInj
namespace Go.Proofs.YtgnpeoddnahnpaaDoor
open Go.RowKit

theorem str_other {x y : ByteArray} (h : x ≠ y) : (!x.toList == y.toList) = true := by
  rw [ByteArray.toList_eq, ByteArray.toList_eq]
  have : (x.data.toList == y.data.toList) = false := beq_eq_false_iff_ne.2 fun e => h (bytes_inj e)
  rw [this]
  rfl
theorem take_next {α : Type} {ss tt : List α} {k : Nat} (h1 : k < ss.length) (h2 : k < tt.length) (h : ss.take k = tt.take k) (he : ss[k] = tt[k]) : ss.take (k + 1) = tt.take (k + 1) := by
  rw [List.take_succ_eq_append_getElem h1, List.take_succ_eq_append_getElem h2, h, he]
theorem take_diff {α : Type} {ss tt : List α} {k : Nat} (h1 : k < ss.length) (h2 : k < tt.length) (he : ss[k] ≠ tt[k]) : ss ≠ tt := by
  rintro rfl
  exact he rfl

set_option maxHeartbeats 1000000 in
theorem texts_any (A B : Option Addr) (ca cb : Nat) (ss tt : List ByteArray) (w : World) (hn : ss.length ≤ 1048576) (hm : tt.length ≤ 1048576) (hA : StrsAt w A ss) (hB : StrsAt w B tt) :
    Calls Tryd.prog 27 #[.slice A ss.length ca, .slice B tt.length cb] w fun e w' => e = .returned (.bool (decide (ss = tt))) ∧ ∃ q, w' = w.drewN q := by
  by_cases hl : ss.length = tt.length
  · have hq0 : ((ss.length : Int) != (tt.length : Int)) = false := by simp [hl]
    go_enter Tryd.func27, Tryd.ntmps27
    go_wp2
    go_loopw [5] (fun i wr => ∃ k : Nat, k ≤ ss.length ∧ i = .int .i64 k ∧ ss.take k = tt.take k ∧ ∃ q, wr = w.drewN q) (fun i _ => ss.length - (intOf i).toNat)
    case atStart => exact ⟨0, Nat.zero_le _, rfl, rfl, 0, rfl⟩
    case round =>
      obtain ⟨k, hk, rfl, htk, q, rfl⟩ := hrel
      by_cases hlt : k < ss.length
      · obtain ⟨b, off, rfl, hlb, hc⟩ := hA (by omega)
        obtain ⟨b2, off2, rfl, hlb2, hc2⟩ := hB (by omega)
        have hlt2 : k < tt.length := by omega
        have hck := hc k hlt
        have hck2 := hc2 k hlt2
        have hnx := take_next hlt hlt2 htk
        have hdf := take_diff hlt hlt2
        obtain ⟨x, hx⟩ : ∃ x, x = ss[k] := ⟨_, rfl⟩
        obtain ⟨y, hy⟩ : ∃ y, y = tt[k] := ⟨_, rfl⟩
        rw [← hx] at hck
        rw [← hy] at hck2
        rw [← hx, ← hy] at hnx hdf
        have hlt' : (k : Int) < (ss.length : Int) := by omega
        clear hc hc2 hx hy htk
        by_cases he : x = y
        · subst he
          have HN := Lib.hid (hnx rfl)
          have hq : (!x.toList == x.toList) = false := by simp
          clear hnx hdf
          go_wp2_with fail
          go_quiet (fail)
          go_wp2
          go_roundw
          case rel => exact ⟨k + 1, by omega, by go_num, HN.out, _, rfl⟩
          case measure => simp [intOf]; omega
        · have HD := Lib.hid (hdf he)
          have hq := str_other he
          clear hnx hdf he
          go_wp2_with fail
          go_quiet (fail)
          go_wp2
          go_ret
          exact ⟨by rw [decide_eq_false HD.out]; rfl, _, World.drewN_drewN ..⟩
      · have hke : k = ss.length := by omega
        subst hke
        have HS : Hid (ss = tt) := Lib.hid (by rw [List.take_length, hl, List.take_length] at htk; exact htk)
        clear htk
        go_wp2
        go_ret
        exact ⟨by rw [decide_eq_true HS.out]; rfl, q, rfl⟩
  · have hq0 : ((ss.length : Int) != (tt.length : Int)) = true := by simp; omega
    have hd : ss ≠ tt := fun e => hl (by rw [e])
    have HD := Lib.hid hd
    clear hd
    go_enter Tryd.func27, Tryd.ntmps27
    go_wp2
    go_ret
    exact ⟨by rw [decide_eq_false HD.out]; rfl, 0, rfl⟩

theorem fput_two (ss tt : List ByteArray) :
    (fput ss).2 = false ∨ ((fput ss).2 = true ∧ (fput tt).2 = false) ∨ ((fput ss).2 = true ∧ (fput tt).2 = true ∧ ((strOf (fput ss).1).toList == (strOf (fput tt).1).toList) = decide (ss = tt)) := by
  by_cases h1 : ss.length ≤ 60 ∧ (recL ss).length ≤ 2048
  · by_cases h2 : tt.length ≤ 60 ∧ (recL tt).length ≤ 2048
    · right; right
      rw [fput_yes h1.1 h1.2, fput_yes h2.1 h2.2]
      refine ⟨rfl, rfl, ?_⟩
      rw [ByteArray.toList_eq, ByteArray.toList_eq, strOf_toList, strOf_toList]
      by_cases he : ss = tt
      · subst he
        simp
      · rw [decide_eq_false he]
        exact beq_eq_false_iff_ne.2 fun e => he (recL_inj e)
    · right; left
      rw [fput_yes h1.1 h1.2]
      exact ⟨rfl, by unfold fput; rw [if_neg h2]⟩
  · left
    unfold fput
    rw [if_neg h1]

set_option maxRecDepth 100000 in
set_option maxHeartbeats 1000000 in
theorem walk_apart (A : Option Addr) (n cap : Nat) (A2 : Option Addr) (n2 cap2 : Nat) (w : World) (hn : n ≤ cap) (hA : BytesAt w A n) (hn2 : n2 ≤ cap2) (hA2 : BytesAt w A2 n2) (hT : Tab w) :
    Calls Tryd.prog 8 #[.slice A n cap, .slice A2 n2 cap2] w fun e w' => e = .returned (.bool true) ∧ Below w.heap.size w w' := by
  by_cases h1 : (1048576 : Int) < (n : Int)
  · go_enter Tryd.func8, Tryd.ntmps8
    go_wp2
    go_ret
    exact ⟨rfl, Below.refl _ _⟩
  · by_cases h2 : (1048576 : Int) < (n2 : Int)
    · go_enter Tryd.func8, Tryd.ntmps8
      go_wp2
      go_ret
      exact ⟨rfl, Below.refl _ _⟩
    · have hD := draw_fields A n cap w hn hA
      have hD2 := fun (w1 : World) (hb : Below w.heap.size w w1) => draw_fields A2 n2 cap2 w1 hn2 (bytes_at_below hA2 hb)
      go_enter Tryd.func8, Tryd.ntmps8
      go_wp2_with (go_at_call 26; refine hD.mono ?_; rintro e w1 ⟨ga, ca, ss, rfl, oa, la, sa, hb1⟩; refine Hid.out ?_)
      refine Lib.hid ?_
      have hD3 := hD2 w1 hb1
      go_wp2_with (go_at_call 26; refine hD3.mono ?_; rintro e w2 ⟨gb, cb, tt, rfl, ob, lb, sb, hb2⟩; refine Hid.out ?_)
      refine Lib.hid ?_
      have oa2 := own_below9 oa hb2
      have b2 : Below w.heap.size w w2 := hb1.trans (hb2.mono hb1.size)
      have aA := StrsAt.of_own oa2 rfl
      have aB := StrsAt.of_own ob rfl
      clear hD hD2 hD3 oa oa2 ob
      have eI1 := impl_fput (some ⟨ga, 0, none⟩) ca ss w2 (by omega) (fun s hs => by have := sa s hs; omega) aA (tab_at hT b2)
      go_wp2_with (go_at_call 16; refine eI1.mono ?_; rintro e w3 ⟨rfl, hb3⟩; refine Hid.out ?_)
      refine Lib.hid ?_
      have aA3 := aA.below hb3
      have aB3 := aB.below hb3
      have b3 : Below w.heap.size w w3 := b2.trans (hb3.mono b2.size)
      clear eI1 aA aB
      have fI1 := impl_fput (some ⟨gb, 0, none⟩) cb tt w3 (by omega) (fun s hs => by have := sb s hs; omega) aB3 (tab_at hT b3)
      go_wp2_with (go_at_call 16; refine fI1.mono ?_; rintro e w4 ⟨rfl, hb4⟩; refine Hid.out ?_)
      refine Lib.hid ?_
      have aA4 := aA3.below hb4
      have aB4 := aB3.below hb4
      have b4 : Below w.heap.size w w4 := b3.trans (hb4.mono b3.size)
      clear fI1 aA3 aB3
      have sI1 := spec_fput (some ⟨ga, 0, none⟩) ca ss w4 (by omega) (fun s hs => by have := sa s hs; omega) aA4
      go_wp2_with (go_at_call 14; refine sI1.mono ?_; rintro e w5 ⟨rfl, hb5⟩; refine Hid.out ?_)
      refine Lib.hid ?_
      have aA5 := aA4.below hb5
      have aB5 := aB4.below hb5
      have b5 : Below w.heap.size w w5 := b4.trans (hb5.mono b4.size)
      have tI := texts_any (some ⟨ga, 0, none⟩) (some ⟨gb, 0, none⟩) ca cb ss tt w5 (by omega) (by omega) aA5 aB5
      have hj := fput_two ss tt
      clear sI1 aA4 aB4 aA5 aB5 hT sa sb
      obtain ⟨d, hd⟩ : ∃ d, d = decide (ss = tt) := ⟨_, rfl⟩
      obtain ⟨ra, hra⟩ : ∃ r, r = fput ss := ⟨_, rfl⟩
      obtain ⟨rb, hrb⟩ : ∃ r, r = fput tt := ⟨_, rfl⟩
      rw [← hra, ← hrb, ← hd] at hj
      rw [← hd] at tI
      rw [← hra, ← hrb]
      clear hra hrb hd
      obtain ⟨ra1, ra2⟩ := ra
      obtain ⟨rb1, rb2⟩ := rb
      dsimp only at hj ⊢
      have hq : (!(strOf ra1).toList == (strOf ra1).toList) = false := by simp
      have hq2 : ((strOf ra1).toList == (strOf ra1).toList) = true := by simp
      rcases hj with rfl | ⟨rfl, rfl⟩ | ⟨rfl, rfl, hj⟩
      · clear tI
        go_wp2_with fail
        go_ret
        exact ⟨rfl, b5⟩
      · clear tI
        go_wp2_with fail
        go_ret
        exact ⟨rfl, b5⟩
      · have hdd : (d == d) = true := by cases d <;> rfl
        go_wp2_with (go_at_call 27; refine tI.mono ?_; rintro e w6 ⟨rfl, q, rfl⟩)
        go_ret
        exact ⟨rfl, below_drewN b5 q⟩

end Go.Proofs.YtgnpeoddnahnpaaDoor
