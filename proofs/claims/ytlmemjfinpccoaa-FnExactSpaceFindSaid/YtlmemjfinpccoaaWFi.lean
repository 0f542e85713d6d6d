/-
  The walk of FnExactSpaceFind.
-/
import Derived.Test.YtlmemjfinpccoaaFndI
import Derived.Test.YtlmemjfinpccoaaArg
namespace Go.Proofs.Ytlmemjfinpccoaa
open Go.RowKit

set_option maxRecDepth 100000 in
set_option maxHeartbeats 8000000 in
theorem walk_efind (A B C : Option Addr) (c e k : Nat) (d : Sp) (f : Int) (xs : List Int) (w : World) (hA : SArg w A B d) (hxl : xs.length ≤ maxLen) (hC : Lies w C (intCells xs)) :
    Calls Try.prog 6 #[.agg #[.slice A d.refs.length c, .slice B d.last.length e], .int .i64 f, .slice C xs.length k] w fun r w' => r = .returned (.bool true) ∧ Below w.heap.size w w' := by
  have b0 := B2.new w 29 (.slice A d.refs.length c) (.slice B d.last.length e)
  have B0 := bel_new (Below.refl w.heap.size w) (.cells #[.slice A d.refs.length c, .slice B d.last.length e] 29)
  have hS := fun W => sz_space A B c e d.refs.length d.last.length 1048576 W (by omega) (by omega) hA.n hA.m
  obtain ⟨hn, hm, hA⟩ := hA
  unfold maxLen at hxl
  by_cases hbig : 1048576 < xs.length
  · have hbig2 : (1048576 : Int) < (xs.length : Int) := by omega
    clear hS hn hm hA hbig hC
    go_enter Try.func6, Try.ntmps6
    go_wp2
    go_ret
    exact ⟨rfl, B0⟩
  have hbig2 : ¬ (1048576 : Int) < (xs.length : Int) := by omega
  have hX := fun W hW => to_ints C k xs W (by omega) (hC.below (w' := W) hW)
  have hxn : xs.length ≤ 1048576 := by omega
  go_enter Try.func6, Try.ntmps6
  go_wp2_with (go_at_call 24; refine (hS _).mono ?_; rintro r w1 ⟨z, rfl, hb1, hz⟩; refine Hid.out ?_)
  refine Lib.hid ?_
  have B1 := bel_then B0 hb1
  have b1 := b0.below hb1
  clear hS B0 b0 hb1
  obtain ⟨⟨x0, x1⟩, _⟩ := b1.cells
  by_cases hzz : z < 0
  · go_wp2_with fail
    go_ret
    exact ⟨rfl, B1⟩
  have hz := hz (by omega)
  have hd : d.refs.length ≤ 1048576 ∧ d.last.length ≤ 1048576 := ⟨by omega, by omega⟩
  have hT := fun W hW => to_space A B c e d W hd.1 hd.2 (hA.below (w' := W) hW)
  clear hn hm hz
  go_wp2_with (go_at_call 26; refine (hT _ B1).mono ?_; rintro r w2 ⟨A2, c2, E2, e2, rfl, o2, hb2⟩; refine Hid.out ?_)
  refine Lib.hid ?_
  have B2' := bel_then B1 hb2
  have b2 := b1.below hb2
  clear x0 x1 b1 B1 hb2
  go_wp2_with (go_at_call 31; refine (hX _ B2').mono ?_; rintro r w3 ⟨g3, rfl, q3, hb3⟩; refine Hid.out ?_)
  refine Lib.hid ?_
  have B3' := bel_then B2' hb3
  have b3 := b2.below hb3
  have o3 := o2.below hb3
  have hO := spec_find A2 E2 (some ⟨g3, 0, none⟩) c2 e2 xs.length d f xs w3 hd.1 hd.2 hxn o3.lies (row_lies q3)
  clear b2 B2' o2 hb3
  go_wp2_with (go_at_call 30; refine hO.mono ?_; rintro r w4 ⟨rfl, hb4⟩; refine Hid.out ?_)
  refine Lib.hid ?_
  have B4' := bel_then B3' hb4
  have b4 := b3.below hb4
  clear B3' b3 hO hb4 o3 q3
  obtain ⟨⟨x0, x1⟩, _⟩ := b4.cells
  go_wp2_with (go_at_call 26; refine (hT _ B4').mono ?_; rintro r w5 ⟨A5, c5, E5, e5, rfl, o5, hb5⟩; refine Hid.out ?_)
  refine Lib.hid ?_
  have bl : Below w5.heap.size w5 (w5.alloc (.cells #[.slice A5 d.refs.length c5, .slice E5 d.last.length e5] 24)) := (Below.refl _ _).alloc (Nat.le_refl _) _
  have B5' := bel_then (bel_then B4' hb5) bl
  have bx := B2.new w5 24 (.slice A5 d.refs.length c5) (.slice E5 d.last.length e5)
  have s5 := (b4.below hb5).lt
  have b5 := (b4.below hb5).below bl
  have o5 := o5.below bl
  clear x0 x1 b4 B4' hb5 bl
  go_wp2_with (go_at_call 31; refine (hX _ B5').mono ?_; rintro r w6 ⟨g6, rfl, q6, hb6⟩; refine Hid.out ?_)
  refine Lib.hid ?_
  have B6 := bel_then B5' hb6
  have b6 := b5.below hb6
  have bx6 := bx.below hb6
  have o6 := o5.below hb6
  have hI := impl_find A5 E5 (some ⟨g6, 0, none⟩) c5 e5 xs.length d f xs w6 hd.1 hd.2 hxn o6.lies (row_lies q6)
  clear b5 B5' o5 hb6 bx
  obtain ⟨⟨y0, y1⟩, _⟩ := bx6.cells
  go_wp2_with (go_at_call 32; refine hI.mono ?_; rintro r w7 ⟨rfl, hb7⟩; refine Hid.out ?_)
  refine Lib.hid ?_
  have B7 := bel_then B6 hb7
  have b7 := b6.below hb7
  have bx7 := bx6.below hb7
  have o7 := o6.below hb7
  have q7 := own_bel q6 hb7
  clear b6 B6 o6 hI hb7 bx6 q6 y0 y1
  have hne : (findS d f xs != findS d f xs) = false := by simp
  obtain ⟨ok, hok⟩ : ∃ ok, ok = findS d f xs := ⟨_, rfl⟩
  rw [← hok] at hne
  rw [← hok]
  clear hok
  obtain ⟨⟨x0, x1⟩, _⟩ := b7.cells
  obtain ⟨⟨y0, y1⟩, _⟩ := bx7.cells
  have hT7 := hT w7.drew B7.drew
  clear hT
  go_upto_region 13 with fail
  have o7d : SpOwn w7.drew _ _ d := o7
  go_cut [41] (fun s wx => s = .bool false ∧ Below w7.heap.size w7 wx)
  case first =>
    first
      | go_region_with (first
        | (go_at_call 26; refine hT7.mono ?_; rintro r w8 ⟨A8, c8, E8, e8, rfl, o8, hb8⟩; obtain ⟨⟨y0, y1⟩, _⟩ := (bx7.drew.below hb8).cells; have E := eq_own hd.1 hd.2 (o7d.below hb8) o8)
        | (go_at_call 21; refine E.mono ?_; rintro r w9 ⟨rfl, hb9⟩))
      | fail "region"
    all_goals go_wp2_with fail
    all_goals go_meet
    all_goals exact ⟨rfl, bel_then (bel_then (Below.refl _ _).drew hb8) hb9⟩
  case rest =>
    obtain ⟨rfl, hb8⟩ := hcut
    obtain ⟨w8, e8, hb8⟩ : ∃ W, W = _ ∧ Below w7.heap.size w7 W := ⟨_, rfl, hb8⟩
    subst e8
    have B8 := bel_then B7 hb8
    have q8 := own_bel q7 hb8
    clear x0 x1 y0 y1 hT7 o7d hb8 o7 B7 b7 bx7 q7
    go_wp2_with (go_at_call 31; refine (hX _ B8).mono ?_; rintro r w9 ⟨g9, rfl, q9, hb9⟩; refine Hid.out ?_)
    refine Lib.hid ?_
    have B9 := bel_then B8 hb9
    have hE := eq_ints (some ⟨g6, 0, none⟩) (some ⟨g9, 0, none⟩) xs.length xs.length xs w9 hxn (row_lies (own_bel q8 hb9)) (row_lies q9)
    clear hb9 B8 q8 q9 hX
    go_wp2_with (go_at_call 33; refine hE.mono ?_; rintro r w10 ⟨rfl, hb10⟩)
    go_ret
    exact ⟨rfl, bel_then B9 hb10⟩
end Go.Proofs.Ytlmemjfinpccoaa
