/-
  The walks of FnExactSpaceNew, FnExactSpaceOk and FnExactSpaceRoom.
-/
import Derived.Test.YtlmemjfinpccoaaSpR
import Derived.Test.YtlmemjfinpccoaaImA
import Derived.Test.YtlmemjfinpccoaaArg
namespace Go.Proofs.Ytlmemjfinpccoaa
open Go.RowKit

set_option maxRecDepth 100000 in
set_option maxHeartbeats 4000000 in
theorem walk_enew (w : World) : Calls Try.prog 3 #[] w fun r w' => r = .returned (.bool true) ∧ Below w.heap.size w w' := by
  have hN := fun w => spec_new w
  have hI := fun w => impl_new w
  have hn : newS.refs.length ≤ 1048576 := by simp [newS]
  have hm : newS.last.length ≤ 1048576 := by simp [newS]
  obtain ⟨d, hd⟩ : ∃ d, d = newS := ⟨_, rfl⟩
  rw [← hd] at hN hI hn hm
  clear hd
  have nn : ¬ (1 + (d.refs.length : Int) + (d.last.length : Int)) < 0 := by omega
  have nq : ((1 + (d.refs.length : Int) + (d.last.length : Int)) != (1 + (d.refs.length : Int) + (d.last.length : Int))) = false := by simp
  go_enter Try.func3, Try.ntmps3
  go_wp2_with (go_at_call 19; refine (hN _).mono ?_; rintro r w1 ⟨A1, c1, E1, e1, rfl, o1, hb1⟩; refine Hid.out ?_)
  refine Lib.hid ?_
  have i1 := o1.in_
  have b1 := B2.new w1 24 (.slice A1 d.refs.length c1) (.slice E1 d.last.length e1)
  have bl : Below w1.heap.size w1 (w1.alloc (.cells #[.slice A1 d.refs.length c1, .slice E1 d.last.length e1] 24)) := (Below.refl _ _).alloc (Nat.le_refl _) _
  have i1 := i1.below bl
  have BB := bel_then hb1 bl
  have s1 := hb1.size
  clear bl o1 hb1 hN
  go_wp2_with (go_at_call 20; refine (hI _).mono ?_; rintro r w2 ⟨A2, c2, E2, e2, rfl, o2, hb2⟩; refine Hid.out ?_)
  refine Lib.hid ?_
  have s2 := hb2.size
  rw [World.size_alloc] at s2
  have i2 := o2.in_
  rw [World.size_alloc] at i2
  have b1 := b1.below hb2
  have i1 := i1.below hb2
  have b2 := B2.new w2 24 (.slice A2 d.refs.length c2) (.slice E2 d.last.length e2)
  have bl : Below w2.heap.size w2 (w2.alloc (.cells #[.slice A2 d.refs.length c2, .slice E2 d.last.length e2] 24)) := (Below.refl _ _).alloc (Nat.le_refl _) _
  have BB := bel_then (bel_then BB hb2) bl
  have b1 := b1.below bl
  have i1 := i1.below bl
  have i2 := i2.below bl
  clear bl o2 hb2
  have E := eq_own hn hm i2.own i1.own
  obtain ⟨⟨x0, x1⟩, _⟩ := b1.cells
  obtain ⟨⟨y0, y1⟩, _⟩ := b2.cells
  go_wp2_with (go_at_call 21; refine E.mono ?_; rintro r w3 ⟨rfl, hb3⟩; refine Hid.out ?_)
  refine Lib.hid ?_
  have s3 := hb3.size
  rw [World.size_alloc] at s3
  have BB := bel_then BB hb3
  have b1 := b1.below hb3
  have b2 := b2.below hb3
  have i1 := i1.below hb3
  have i2 := i2.below hb3
  clear E hb3 x0 x1 y0 y1
  have M := mark_space (w1.heap.size + 1) w2.heap.size _ _ _ _ d w3 hn hm (by omega) i2
  obtain ⟨⟨y0, y1⟩, _⟩ := b2.cells
  clear i2
  go_wp2_with (go_at_call 22; refine M.mono ?_; rintro r w4 ⟨rfl, i2, on⟩; refine Hid.out ?_)
  refine Lib.hid ?_
  have s4 := on.size
  have BB := BB.trans (on.below (B := w.heap.size) (by omega) (by omega))
  have b1 := b1.only on (by omega)
  have b2 := b2.only on (by omega)
  have i1 := i1.only on (.inr (by omega))
  clear M on y0 y1
  have H := held_space _ _ _ _ _ d w4 hn hm i2.own
  obtain ⟨⟨y0, y1⟩, _⟩ := b2.cells
  go_wp2_with (go_at_call 23; refine H.mono ?_; rintro r w5 ⟨rfl, hb5⟩; refine Hid.out ?_)
  refine Lib.hid ?_
  have s5 := hb5.size
  have BB := BB.trans (hb5.mono (by omega))
  have b1 := b1.below hb5
  have b2 := b2.below hb5
  have i1 := i1.below hb5
  have i2 := i2.below hb5
  clear H hb5 y0 y1
  go_wp2_with (go_at_call 20; refine (hI _).mono ?_; rintro r w6 ⟨A6, c6, E6, e6, rfl, o6, hb6⟩; refine Hid.out ?_)
  refine Lib.hid ?_
  have s6 := hb6.size
  have b1 := b1.below hb6
  have b2 := b2.below hb6
  have i1 := i1.below hb6
  have i2 := i2.below hb6
  have b6 := B2.new w6 24 (.slice A6 d.refs.length c6) (.slice E6 d.last.length e6)
  have bl : Below w6.heap.size w6 (w6.alloc (.cells #[.slice A6 d.refs.length c6, .slice E6 d.last.length e6] 24)) := (Below.refl _ _).alloc (Nat.le_refl _) _
  have BB := (BB.trans (hb6.mono (by omega))).trans (bl.mono (by omega))
  have b1 := b1.below bl
  have b2 := b2.below bl
  have i1 := i1.below bl
  have i2 := i2.below bl
  have o6 := o6.below bl
  clear bl hb6 hI
  have E := eq_own hn hm o6 i1.own
  obtain ⟨⟨x0, x1⟩, _⟩ := b1.cells
  obtain ⟨⟨y0, y1⟩, _⟩ := b6.cells
  go_wp2_with (go_at_call 21; refine E.mono ?_; rintro r w7 ⟨rfl, hb7⟩; refine Hid.out ?_)
  refine Lib.hid ?_
  have s7 := hb7.size
  rw [World.size_alloc] at s7
  have BB := BB.trans (hb7.mono (by rw [World.size_alloc]; omega))
  have b2 := b2.below hb7
  have i2 := i2.below hb7
  clear E hb7 x0 x1 y0 y1
  have H := held_space _ _ _ _ _ d w7 hn hm i2.own
  obtain ⟨⟨y0, y1⟩, _⟩ := b2.cells
  go_wp2_with (go_at_call 23; refine H.mono ?_; rintro r w8 ⟨rfl, hb8⟩)
  go_ret
  exact ⟨rfl, BB.trans (hb8.mono (by omega))⟩

set_option maxRecDepth 100000 in
set_option maxHeartbeats 4000000 in
theorem walk_eok (A B : Option Addr) (c e : Nat) (d : Sp) (w : World) (hA : SArg w A B d) :
    Calls Try.prog 4 #[.agg #[.slice A d.refs.length c, .slice B d.last.length e]] w fun r w' => r = .returned (.bool true) ∧ Below w.heap.size w w' := by
  have b0 := B2.new w 29 (.slice A d.refs.length c) (.slice B d.last.length e)
  have B0 := bel_new (Below.refl w.heap.size w) (.cells #[.slice A d.refs.length c, .slice B d.last.length e] 29)
  have hS := fun W => sz_space A B c e d.refs.length d.last.length 1048576 W (by omega) (by omega) hA.n hA.m
  obtain ⟨hn, hm, hA⟩ := hA
  go_enter Try.func4, Try.ntmps4
  go_wp2_with (go_at_call 24; refine (hS _).mono ?_; rintro r w1 ⟨z, rfl, hb1, hz⟩; refine Hid.out ?_)
  refine Lib.hid ?_
  have B1 := bel_then B0 hb1
  have b1 := b0.below hb1
  clear hS B0 b0 hb1
  obtain ⟨⟨x0, x1⟩, _⟩ := b1.cells
  by_cases hzz : z < 0
  · go_wp2_with fail
    go_ret
    exact ⟨rfl, B1⟩
  have hz := hz (by omega)
  have hd : d.refs.length ≤ 1048576 ∧ d.last.length ≤ 1048576 := ⟨by omega, by omega⟩
  have hT := fun W hW => to_space A B c e d W hd.1 hd.2 (hA.below (w' := W) hW)
  clear hn hm hz
  go_wp2_with (go_at_call 26; refine (hT _ B1).mono ?_; rintro r w2 ⟨A2, c2, E2, e2, rfl, o2, hb2⟩; refine Hid.out ?_)
  refine Lib.hid ?_
  have B2' := bel_then B1 hb2
  have b2 := b1.below hb2
  have hO := spec_ok A2 E2 c2 e2 d w2 hd.1 hd.2 o2.lies
  clear x0 x1 b1 B1 o2 hb2
  go_wp2_with (go_at_call 25; refine hO.mono ?_; rintro r w3 ⟨rfl, hb3⟩; refine Hid.out ?_)
  refine Lib.hid ?_
  have B3 := bel_then B2' hb3
  have b3 := b2.below hb3
  clear B2' b2 hO hb3
  obtain ⟨⟨x0, x1⟩, _⟩ := b3.cells
  go_wp2_with (go_at_call 26; refine (hT _ B3).mono ?_; rintro r w4 ⟨A4, c4, E4, e4, rfl, o4, hb4⟩; refine Hid.out ?_)
  refine Lib.hid ?_
  have B4' := bel_then B3 hb4
  have b4 := b3.below hb4
  clear x0 x1 b3 B3 hb4
  have bx := B2.new w4 24 (.slice A4 d.refs.length c4) (.slice E4 d.last.length e4)
  have s4 := b4.lt
  have b5 := b4.alloc (.cells #[.slice A4 d.refs.length c4, .slice E4 d.last.length e4] 24)
  have B5 := bel_new B4' (.cells #[.slice A4 d.refs.length c4, .slice E4 d.last.length e4] 24)
  have o5 := o4.below ((Below.refl _ _).alloc (Nat.le_refl _) (.cells #[.slice A4 d.refs.length c4, .slice E4 d.last.length e4] 24))
  have hI := impl_ok A4 E4 c4 e4 d _ hd.1 hd.2 o5.lies
  clear b4 B4' o4
  go_wp2_with (go_at_call 27; refine hI.mono ?_; rintro r w6 ⟨rfl, hb6⟩; refine Hid.out ?_)
  refine Lib.hid ?_
  have B6 := bel_then B5 hb6
  have b6 := b5.below hb6
  have bx6 := bx.below hb6
  have o6 := o5.below hb6
  clear b5 B5 o5 hI hb6 bx
  have hne : (okS d != okS d) = false := by simp
  obtain ⟨ok, hok⟩ : ∃ ok, ok = okS d := ⟨_, rfl⟩
  rw [← hok] at hne
  rw [← hok]
  clear hok
  obtain ⟨⟨x0, x1⟩, _⟩ := b6.cells
  obtain ⟨⟨y0, y1⟩, _⟩ := bx6.cells
  have hT6 := hT w6.drew B6.drew
  clear hT
  go_upto_region 10 with fail
  have o6d : SpOwn w6.drew _ _ d := o6
  clear o6 b6
  first
    | go_region_with (first
      | (go_at_call 26; refine hT6.mono ?_; rintro r w7 ⟨A7, c7, E7, e7, rfl, o7, hb7⟩; obtain ⟨⟨y0, y1⟩, _⟩ := (bx6.drew.below hb7).cells; have E := eq_own hd.1 hd.2 (o6d.below hb7) o7)
      | (go_at_call 21; refine E.mono ?_; rintro r w8 ⟨rfl, hb8⟩))
    | fail "region"
  all_goals go_wp2_with fail
  all_goals go_ret
  all_goals exact ⟨rfl, bel_then (bel_then B6.drew hb7) hb8⟩

set_option maxRecDepth 100000 in
set_option maxHeartbeats 4000000 in
theorem walk_eroom (A B : Option Addr) (c e : Nat) (d : Sp) (w : World) (hA : SArg w A B d) :
    Calls Try.prog 5 #[.agg #[.slice A d.refs.length c, .slice B d.last.length e]] w fun r w' => r = .returned (.bool true) ∧ Below w.heap.size w w' := by
  have b0 := B2.new w 29 (.slice A d.refs.length c) (.slice B d.last.length e)
  have B0 := bel_new (Below.refl w.heap.size w) (.cells #[.slice A d.refs.length c, .slice B d.last.length e] 29)
  have hS := fun W => sz_space A B c e d.refs.length d.last.length 1048576 W (by omega) (by omega) hA.n hA.m
  obtain ⟨hn, hm, hA⟩ := hA
  go_enter Try.func5, Try.ntmps5
  go_wp2_with (go_at_call 24; refine (hS _).mono ?_; rintro r w1 ⟨z, rfl, hb1, hz⟩; refine Hid.out ?_)
  refine Lib.hid ?_
  have B1 := bel_then B0 hb1
  have b1 := b0.below hb1
  clear hS B0 b0 hb1
  obtain ⟨⟨x0, x1⟩, _⟩ := b1.cells
  by_cases hzz : z < 0
  · go_wp2_with fail
    go_ret
    exact ⟨rfl, B1⟩
  have hz := hz (by omega)
  have hd : d.refs.length ≤ 1048576 ∧ d.last.length ≤ 1048576 := ⟨by omega, by omega⟩
  have hT := fun W hW => to_space A B c e d W hd.1 hd.2 (hA.below (w' := W) hW)
  clear hn hm hz
  go_wp2_with (go_at_call 26; refine (hT _ B1).mono ?_; rintro r w2 ⟨A2, c2, E2, e2, rfl, o2, hb2⟩; refine Hid.out ?_)
  refine Lib.hid ?_
  have B2' := bel_then B1 hb2
  have b2 := b1.below hb2
  have hO := spec_room A2 E2 c2 e2 d w2 hd.1 hd.2 o2.lies
  clear x0 x1 b1 B1 o2 hb2
  go_wp2_with (go_at_call 28; refine hO.mono ?_; rintro r w3 ⟨rfl, hb3⟩; refine Hid.out ?_)
  refine Lib.hid ?_
  have B3 := bel_then B2' hb3
  have b3 := b2.below hb3
  clear B2' b2 hO hb3
  obtain ⟨⟨x0, x1⟩, _⟩ := b3.cells
  go_wp2_with (go_at_call 26; refine (hT _ B3).mono ?_; rintro r w4 ⟨A4, c4, E4, e4, rfl, o4, hb4⟩; refine Hid.out ?_)
  refine Lib.hid ?_
  have B4' := bel_then B3 hb4
  have b4 := b3.below hb4
  clear x0 x1 b3 B3 hb4
  have bx := B2.new w4 24 (.slice A4 d.refs.length c4) (.slice E4 d.last.length e4)
  have s4 := b4.lt
  have b5 := b4.alloc (.cells #[.slice A4 d.refs.length c4, .slice E4 d.last.length e4] 24)
  have B5 := bel_new B4' (.cells #[.slice A4 d.refs.length c4, .slice E4 d.last.length e4] 24)
  have o5 := o4.below ((Below.refl _ _).alloc (Nat.le_refl _) (.cells #[.slice A4 d.refs.length c4, .slice E4 d.last.length e4] 24))
  have hI := impl_room A4 E4 c4 e4 d _ hd.1 hd.2 o5.lies
  clear b4 B4' o4
  go_wp2_with (go_at_call 29; refine hI.mono ?_; rintro r w6 ⟨rfl, hb6⟩; refine Hid.out ?_)
  refine Lib.hid ?_
  have B6 := bel_then B5 hb6
  have b6 := b5.below hb6
  have bx6 := bx.below hb6
  have o6 := o5.below hb6
  clear b5 B5 o5 hI hb6 bx
  have hne : (roomS d != roomS d) = false := by simp
  obtain ⟨ok, hok⟩ : ∃ ok, ok = roomS d := ⟨_, rfl⟩
  rw [← hok] at hne
  rw [← hok]
  clear hok
  obtain ⟨⟨x0, x1⟩, _⟩ := b6.cells
  obtain ⟨⟨y0, y1⟩, _⟩ := bx6.cells
  have hT6 := hT w6.drew B6.drew
  clear hT
  go_upto_region 10 with fail
  have o6d : SpOwn w6.drew _ _ d := o6
  clear o6 b6
  first
    | go_region_with (first
      | (go_at_call 26; refine hT6.mono ?_; rintro r w7 ⟨A7, c7, E7, e7, rfl, o7, hb7⟩; obtain ⟨⟨y0, y1⟩, _⟩ := (bx6.drew.below hb7).cells; have E := eq_own hd.1 hd.2 (o6d.below hb7) o7)
      | (go_at_call 21; refine E.mono ?_; rintro r w8 ⟨rfl, hb8⟩))
    | fail "region"
  all_goals go_wp2_with fail
  all_goals go_ret
  all_goals exact ⟨rfl, bel_then (bel_then B6.drew hb7) hb8⟩

end Go.Proofs.Ytlmemjfinpccoaa
