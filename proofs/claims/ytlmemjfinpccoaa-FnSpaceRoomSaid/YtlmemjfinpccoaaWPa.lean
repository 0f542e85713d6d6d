/-
  The walks of FnSpaceNew, FnSpaceOk and FnSpaceRoom.
-/
import Derived.Test.YtlmemjfinpccoaaDrO
import Derived.Test.YtlmemjfinpccoaaPf
import Derived.Test.YtlmemjfinpccoaaSpR
import Derived.Test.YtlmemjfinpccoaaImA
import Derived.Test.YtlmemjfinpccoaaFndI
namespace Go.Proofs.Ytlmemjfinpccoaa
open Go.RowKit

theorem newS_ok : SpOk newS := ⟨by simp [newS], by simp [newS], fun i hi => by
  rw [← newS_of, usOf_spOf, zeroU_at]
  exact .inl ⟨rfl, rfl⟩⟩
theorem newS_room : roomS newS = 56 := by
  unfold roomS
  rw [if_pos newS_ok, ← newS_of, usOf_spOf, cnt_zero]
  rfl
theorem cntU_le (U : Us) : cntU U ≤ U.length := by
  unfold cntU
  exact List.length_filter_le _ _
/-- A valid space has no more rows in use than there are for blocks. -/
theorem room_in {s : Sp} (h : SpOk s) : 0 ≤ roomS s := by
  have h8 : cntU ((usOf s).take 8) = 0 := by
    unfold cntU
    rw [List.length_eq_zero_iff, List.filter_eq_nil_iff]
    intro u hu
    obtain ⟨i, hi, rfl⟩ := List.getElem_of_mem hu
    have hi8 : i < 8 := by
      rw [List.length_take] at hi
      omega
    have hl := usOf_len h.1 h.2.1
    have := h.2.2 i (by omega)
    rw [List.getD_eq_getElem?_getD, List.getElem?_eq_getElem (by omega : i < (usOf s).length)] at this
    rw [List.getElem_take]
    simp only [Option.getD_some] at this
    rcases this with ⟨a, b⟩ | ⟨a, _⟩
    · simp [Prod.ext_iff, a, b]
    · omega
  have hc : cntU (usOf s) = cntU ((usOf s).take 8) + cntU ((usOf s).drop 8) := by
    unfold cntU
    rw [← List.length_append, ← List.filter_append, List.take_append_drop]
  have := cntU_le ((usOf s).drop 8)
  rw [List.length_drop, usOf_len h.1 h.2.1] at this
  unfold roomS
  rw [if_pos h]
  omega
theorem ok_room (s : Sp) : okS s = decide (0 ≤ roomS s) := by
  by_cases h : SpOk s
  · rw [okS_yes h]
    exact (decide_eq_true (room_in h)).symm
  · rw [okS_no h]
    unfold roomS
    rw [if_neg h]
    rfl

set_option maxRecDepth 100000 in
set_option maxHeartbeats 4000000 in
theorem walk_pnew (A : Option Addr) (n cap : Nat) (w : World) : Calls Try.prog 10 #[.slice A n cap] w fun r w' => r = .returned (.bool true) ∧ Below w.heap.size w w' := by
  have hN := fun w => spec_new w
  have hI := fun w => impl_new w
  have hn : newS.refs.length ≤ 1048576 := by simp [newS]
  have hm : newS.last.length ≤ 1048576 := by simp [newS]
  have hok := okS_yes newS_ok
  have hrm := newS_room
  obtain ⟨d, hd⟩ : ∃ d, d = newS := ⟨_, rfl⟩
  rw [← hd] at hN hI hn hm hok hrm
  clear hd
  by_cases hbig : (1048576 : Int) < (n : Int)
  · go_enter Try.func10, Try.ntmps10
    go_wp2_with fail
    go_ret
    exact ⟨rfl, Below.refl _ _⟩
  go_enter Try.func10, Try.ntmps10
  go_wp2_with (go_at_call 20; refine (hI _).mono ?_; rintro r w1 ⟨A1, c1, E1, e1, rfl, o1, hb1⟩; refine Hid.out ?_)
  refine Lib.hid ?_
  have i1 := o1.in_
  have b1 := B2.new w1 24 (.slice A1 d.refs.length c1) (.slice E1 d.last.length e1)
  have bl : Below w1.heap.size w1 (w1.alloc (.cells #[.slice A1 d.refs.length c1, .slice E1 d.last.length e1] 24)) := (Below.refl _ _).alloc (Nat.le_refl _) _
  have i1 := i1.below bl
  have BB := bel_then hb1 bl
  have s1 := hb1.size
  clear bl o1 hb1 hI
  go_wp2_with (go_at_call 19; refine (hN _).mono ?_; rintro r w2 ⟨A2, c2, E2, e2, rfl, o2, hb2⟩; refine Hid.out ?_)
  refine Lib.hid ?_
  have s2 := hb2.size
  rw [World.size_alloc] at s2
  have i2 := o2.in_
  rw [World.size_alloc] at i2
  have b1 := b1.below hb2
  have i1 := i1.below hb2
  have b2 := B2.new w2 24 (.slice A2 d.refs.length c2) (.slice E2 d.last.length e2)
  have bl : Below w2.heap.size w2 (w2.alloc (.cells #[.slice A2 d.refs.length c2, .slice E2 d.last.length e2] 24)) := (Below.refl _ _).alloc (Nat.le_refl _) _
  have BB := bel_then (bel_then BB hb2) bl
  have b1 := b1.below bl
  have i1 := i1.below bl
  have i2 := i2.below bl
  clear bl o2 hb2 hN
  have E := pf_own hn hm i1.own i2.own
  obtain ⟨⟨x0, x1⟩, _⟩ := b1.cells
  obtain ⟨⟨y0, y1⟩, _⟩ := b2.cells
  go_wp2_with (go_at_call 44; refine E.mono ?_; rintro r w3 ⟨rfl, hb3⟩; refine Hid.out ?_)
  refine Lib.hid ?_
  have BB := bel_then BB hb3
  have b1 := b1.below hb3
  have i1 := i1.below hb3
  clear E hb3 x0 x1 y0 y1 b2 i2
  have K := impl_ok A1 E1 c1 e1 d w3 hn hm i1.own.lies
  rw [hok] at K
  obtain ⟨⟨x0, x1⟩, _⟩ := b1.cells
  go_upto_region 8 with fail
  go_wp2_with (first
    | (go_at_call 27; refine K.mono ?_; rintro r w4 ⟨rfl, hb4⟩; have BB := bel_then BB hb4; have b1 := b1.below hb4; obtain ⟨⟨x0, x1⟩, _⟩ := b1.cells; have K2 := impl_room A1 E1 c1 e1 d w4 hn hm (i1.below hb4).own.lies; rw [hrm] at K2)
    | (go_at_call 29; refine K2.mono ?_; rintro r w5 ⟨rfl, hb5⟩; have BB := bel_then BB hb5))
  go_ret
  exact ⟨rfl, BB⟩

set_option maxRecDepth 100000 in
set_option maxHeartbeats 4000000 in
theorem walk_pok (A : Option Addr) (n cap : Nat) (w : World) (hn : n ≤ cap) (hA : BytesAt w A n) : Calls Try.prog 11 #[.slice A n cap] w fun r w' => r = .returned (.bool true) ∧ Below w.heap.size w w' := by
  have hD := draw_ok A n cap w hn hA
  by_cases hbig : (1048576 : Int) < (n : Int)
  · go_enter Try.func11, Try.ntmps11
    go_wp2_with fail
    go_ret
    exact ⟨rfl, Below.refl _ _⟩
  clear hA hn
  go_enter Try.func11, Try.ntmps11
  go_wp2_with (go_at_call 45; refine hD.mono ?_; rintro r w1 ⟨A1, c1, E1, e1, d, rfl, hs, hn, hm, hb1⟩; refine Hid.out ?_)
  refine Lib.hid ?_
  have hn : d.refs.length ≤ 1048576 := by omega
  have hm : d.last.length ≤ 1048576 := by omega
  have b1 := B2.new w1 24 (.slice A1 d.refs.length c1) (.slice E1 d.last.length e1)
  have bl : Below w1.heap.size w1 (w1.alloc (.cells #[.slice A1 d.refs.length c1, .slice E1 d.last.length e1] 24)) := (Below.refl _ _).alloc (Nat.le_refl _) _
  have hs := hs.below bl
  have BB := bel_then hb1 bl
  have K := impl_ok A1 E1 c1 e1 d _ hn hm hs
  obtain ⟨⟨x0, x1⟩, _⟩ := b1.cells
  clear bl hb1 hD
  go_wp2_with (go_at_call 27; refine K.mono ?_; rintro r w2 ⟨rfl, hb2⟩; refine Hid.out ?_)
  refine Lib.hid ?_
  have BB := bel_then BB hb2
  have b1 := b1.below hb2
  have hs := hs.below hb2
  have K := spec_ok A1 E1 c1 e1 d _ hn hm hs
  clear x0 x1 hb2
  obtain ⟨⟨x0, x1⟩, _⟩ := b1.cells
  obtain ⟨o, ho⟩ : ∃ o, o = okS d := ⟨_, rfl⟩
  rw [← ho] at K ⊢
  have hq : (o == o) = true := by simp
  go_wp2_with (go_at_call 25; refine K.mono ?_; rintro r w3 ⟨rfl, hb3⟩; refine Hid.out ?_)
  refine Lib.hid ?_
  have BB := bel_then BB hb3
  have b1 := b1.below hb3
  have hs := hs.below hb3
  have K := impl_room A1 E1 c1 e1 d _ hn hm hs
  clear x0 x1 hb3
  obtain ⟨⟨x0, x1⟩, _⟩ := b1.cells
  rw [ok_room] at ho
  go_wp2_with (go_at_call 29; refine K.mono ?_; rintro r w4 ⟨rfl, hb4⟩; have hq2 : (o == decide (0 ≤ roomS d)) = true := (by rw [ho]; simp))
  go_ret
  exact ⟨by simp [ok_room], bel_then BB hb4⟩
end Go.Proofs.Ytlmemjfinpccoaa
