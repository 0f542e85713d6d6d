/-
  The walks of FnExactSpaceTake and FnExactSpaceGive.
-/
import Derived.Test.YtlmemjfinpccoaaSpG
import Derived.Test.YtlmemjfinpccoaaArg
namespace Go.Proofs.Ytlmemjfinpccoaa
open Go.RowKit

theorem take_len (s : Sp) (n t : Int) : (takeS s n t).1.refs.length ≤ 1048576 ∧ (takeS s n t).1.last.length ≤ 1048576 := by
  unfold takeS
  split
  · rename_i h
    have := usOf_len h.1.1 h.1.2.1
    simp [spOf, takeU, this]
  · simp [noS]
theorem give_len (s : Sp) (n : Int) : (giveS s n).1.refs.length ≤ 1048576 ∧ (giveS s n).1.last.length ≤ 1048576 := by
  unfold giveS
  split
  · rename_i h
    have := usOf_len h.1.1 h.1.2.1
    simp [spOf, giveU, this]
  · simp [noS]

set_option maxRecDepth 100000 in
set_option maxHeartbeats 8000000 in
theorem walk_etake (A B : Option Addr) (c e : Nat) (d : Sp) (n t : Int) (hwn : (Lit.int .i64 n).wf = true) (w : World) (hA : SArg w A B d) :
    Calls Try.prog 7 #[.agg #[.slice A d.refs.length c, .slice B d.last.length e], .int .i64 n, .int .i64 t] w fun r w' => r = .returned (.bool true) ∧ Below w.heap.size w w' := by
  have b0 := B2.new w 29 (.slice A d.refs.length c) (.slice B d.last.length e)
  have BB := bel_new (Below.refl w.heap.size w) (.cells #[.slice A d.refs.length c, .slice B d.last.length e] 29)
  have hS := fun W => sz_space A B c e d.refs.length d.last.length 1048576 W (by omega) (by omega) hA.n hA.m
  obtain ⟨hn, hm, hA⟩ := hA
  go_enter Try.func7, Try.ntmps7
  go_wp2_with (go_at_call 24; refine (hS _).mono ?_; rintro r w1 ⟨z, rfl, hb1, hz⟩; refine Hid.out ?_)
  refine Lib.hid ?_
  have sw1 := hb1.size
  rw [World.size_alloc] at sw1
  have b0 := b0.below hb1
  have BB := bel_then BB hb1
  clear hS hb1
  by_cases hzz : z < 0
  · obtain ⟨⟨x0, x1⟩, _⟩ := b0.cells
    go_wp2_with fail
    go_ret
    exact ⟨rfl, BB⟩
  have hz := hz (by omega)
  have hd : d.refs.length ≤ 1048576 ∧ d.last.length ≤ 1048576 := ⟨by omega, by omega⟩
  have hT := fun W hW => to_space A B c e d W hd.1 hd.2 (hA.below (w' := W) hW)
  have hSp := fun A B c e W hW => spec_take A B c e d n t W hd.1 hd.2 hW
  have hIm := fun A B c e W hW => impl_take A B c e d n t W hwn hd.1 hd.2 hW
  have hDn : ((takeS d n t).1).refs.length ≤ 1048576 ∧ ((takeS d n t).1).last.length ≤ 1048576 := take_len d n t
  obtain ⟨D, hD⟩ : ∃ D, D = (takeS d n t).1 := ⟨_, rfl⟩
  rw [← hD] at hDn
  obtain ⟨b, hb⟩ : ∃ b, b = (takeS d n t).2 := ⟨_, rfl⟩
  simp only [← hD, ← hb] at hSp hIm
  have hbb : (b != b) = false := by simp
  clear hD hb
  obtain ⟨hD1, hD2⟩ := hDn
  have nn : ¬ (1 + (d.refs.length : Int) + (d.last.length : Int)) < 0 := by omega
  have nn2 : ¬ (1 + (D.refs.length : Int) + (D.last.length : Int)) < 0 := by omega
  have nq : ((1 + (D.refs.length : Int) + (D.last.length : Int)) != (1 + (D.refs.length : Int) + (D.last.length : Int))) = false := by simp
  clear hn hm hz
  obtain ⟨⟨x0, x1⟩, _⟩ := b0.cells
  go_wp2_with (go_at_call 26; refine (hT _ BB).mono ?_; rintro r w2 ⟨A2, c2, E2, e2, rfl, o2, hb2⟩; refine Hid.out ?_)
  refine Lib.hid ?_
  have sw2 := hb2.size
  have b0 := b0.below hb2
  have BB := bel_then BB hb2
  have L := hSp A2 E2 c2 e2 w2 o2.lies
  clear x0 x1 hb2 o2 hSp
  go_wp2_with (go_at_call 34; refine (L).mono ?_; rintro r w3 ⟨A3, c3, E3, e3, rfl, o3, hb3⟩; refine Hid.out ?_)
  refine Lib.hid ?_
  have sw3 := hb3.size
  have b0 := b0.below hb3
  have BB := bel_then BB hb3
  have i1 := o3.in_
  clear L hb3 o3
  have b1 := B2.new w3 24 (.slice A3 D.refs.length c3) (.slice E3 D.last.length e3)
  have bl : Below w3.heap.size w3 (w3.alloc (.cells #[.slice A3 D.refs.length c3, .slice E3 D.last.length e3] 24)) := (Below.refl _ _).alloc (Nat.le_refl _) _
  have BB := bel_then BB bl
  have b0 := b0.below bl
  have i1 := i1.below bl
  clear bl
  obtain ⟨⟨x0, x1⟩, _⟩ := b0.cells
  go_wp2_with (go_at_call 26; refine (hT _ BB).mono ?_; rintro r w4 ⟨A4, c4, E4, e4, rfl, o4, hb4⟩; refine Hid.out ?_)
  refine Lib.hid ?_
  have sw4 := hb4.size
  rw [World.size_alloc] at sw4
  have b0 := b0.below hb4
  have b1 := b1.below hb4
  have i1 := i1.below hb4
  have BB := bel_then BB hb4
  have ix := o4.in_
  rw [World.size_alloc] at ix
  clear x0 x1 hb4 o4
  have bx := B2.new w4 24 (.slice A4 d.refs.length c4) (.slice E4 d.last.length e4)
  have bl : Below w4.heap.size w4 (w4.alloc (.cells #[.slice A4 d.refs.length c4, .slice E4 d.last.length e4] 24)) := (Below.refl _ _).alloc (Nat.le_refl _) _
  have BB := bel_then BB bl
  have b0 := b0.below bl
  have b1 := b1.below bl
  have i1 := i1.below bl
  have ix := ix.below bl
  clear bl
  have L := hIm A4 E4 c4 e4 _ ix.own.lies
  obtain ⟨⟨x0, x1⟩, _⟩ := bx.cells
  go_wp2_with (go_at_call 35; refine (L).mono ?_; rintro r w5 ⟨A5, c5, E5, e5, rfl, o5, hb5⟩; refine Hid.out ?_)
  refine Lib.hid ?_
  have sw5 := hb5.size
  rw [World.size_alloc] at sw5
  have b0 := b0.below hb5
  have b1 := b1.below hb5
  have bx := bx.below hb5
  have i1 := i1.below hb5
  have ix := ix.below hb5
  have BB := bel_then BB hb5
  have ig := o5.in_
  rw [World.size_alloc] at ig
  clear L x0 x1 hb5 o5
  have bg := B2.new w5 24 (.slice A5 D.refs.length c5) (.slice E5 D.last.length e5)
  have bl : Below w5.heap.size w5 (w5.alloc (.cells #[.slice A5 D.refs.length c5, .slice E5 D.last.length e5] 24)) := (Below.refl _ _).alloc (Nat.le_refl _) _
  have BB := bel_then BB bl
  have b0 := b0.below bl
  have b1 := b1.below bl
  have bx := bx.below bl
  have i1 := i1.below bl
  have ix := ix.below bl
  have ig := ig.below bl
  clear bl
  have E := eq_own hD1 hD2 ig.own i1.own
  obtain ⟨⟨x0, x1⟩, _⟩ := b1.cells
  obtain ⟨⟨y0, y1⟩, _⟩ := bg.cells
  go_wp2_with (go_at_call 21; refine (E).mono ?_; rintro r w6 ⟨rfl, hb6⟩; refine Hid.out ?_)
  refine Lib.hid ?_
  have sw6 := hb6.size
  rw [World.size_alloc] at sw6
  have b0 := b0.below hb6
  have b1 := b1.below hb6
  have bx := bx.below hb6
  have bg := bg.below hb6
  have i1 := i1.below hb6
  have ix := ix.below hb6
  have ig := ig.below hb6
  have BB := bel_then BB hb6
  clear E x0 x1 y0 y1 hb6
  obtain ⟨⟨x0, x1⟩, _⟩ := b0.cells
  obtain ⟨⟨y0, y1⟩, _⟩ := bx.cells
  have hTd := hT w6.drew BB.drew
  have ixd : SpIn w6.drew _ _ _ d := ix
  go_upto_region 10 with fail
  go_cut [53] (fun s wx => s = .bool false ∧ Below w6.heap.size w6 wx)
  case first =>
    first
      | go_region_with (first
        | (go_at_call 26; refine hTd.mono ?_; rintro r w7 ⟨A7, c7, E7, e7, rfl, o7, hb7⟩; obtain ⟨⟨y0, y1⟩, _⟩ := (bx.drew.below hb7).cells; have E := eq_own hd.1 hd.2 (ixd.below hb7).own o7)
        | (go_at_call 21; refine E.mono ?_; rintro r w8 ⟨rfl, hb8⟩))
      | fail "region"
    all_goals go_wp2_with fail
    all_goals go_meet
    all_goals exact ⟨rfl, bel_then (bel_then (Below.refl _ _).drew hb7) hb8⟩
  case rest =>
    obtain ⟨rfl, hb8⟩ := hcut
    obtain ⟨w8, e8, hb8⟩ : ∃ W, W = _ ∧ Below w6.heap.size w6 W := ⟨_, rfl, hb8⟩
    subst e8
    have sw8 := hb8.size
    have b0 := b0.below hb8
    have b1 := b1.below hb8
    have bx := bx.below hb8
    have bg := bg.below hb8
    have i1 := i1.below hb8
    have ix := ix.below hb8
    have ig := ig.below hb8
    have BB := bel_then BB hb8
    clear x0 x1 y0 y1 hTd ixd hb8
    have M := mark_space (w3.heap.size + 1) w4.heap.size _ _ _ _ d w8 hd.1 hd.2 (by omega) ix
    clear ix
    obtain ⟨⟨x0, x1⟩, _⟩ := bx.cells
    go_wp2_with (go_at_call 22; refine (M).mono ?_; rintro r w9 ⟨rfl, ix, on⟩; refine Hid.out ?_)
    refine Lib.hid ?_
    have sw9 := on.size
    have BB := BB.trans (on.below (B := w.heap.size) (by omega) (by omega))
    have b0 := b0.only on (by omega)
    have b1 := b1.only on (by omega)
    have bx := bx.only on (by omega)
    have bg := bg.only on (by omega)
    have i1 := i1.only on (by omega)
    have ig := ig.only on (by omega)
    clear M on ix x0 x1
    have E := eq_own hD1 hD2 ig.own i1.own
    obtain ⟨⟨x0, x1⟩, _⟩ := b1.cells
    obtain ⟨⟨y0, y1⟩, _⟩ := bg.cells
    go_wp2_with (go_at_call 21; refine (E).mono ?_; rintro r w10 ⟨rfl, hb10⟩; refine Hid.out ?_)
    refine Lib.hid ?_
    have sw10 := hb10.size
    have b0 := b0.below hb10
    have b1 := b1.below hb10
    have bx := bx.below hb10
    have bg := bg.below hb10
    have i1 := i1.below hb10
    have ig := ig.below hb10
    have BB := bel_then BB hb10
    clear E x0 x1 y0 y1 hb10
    have M := mark_space (w4.heap.size + 1) w5.heap.size _ _ _ _ D w10 hD1 hD2 (by omega) ig
    clear ig
    obtain ⟨⟨x0, x1⟩, _⟩ := bg.cells
    go_wp2_with (go_at_call 22; refine (M).mono ?_; rintro r w11 ⟨rfl, ig, on⟩; refine Hid.out ?_)
    refine Lib.hid ?_
    have sw11 := on.size
    have BB := BB.trans (on.below (B := w.heap.size) (by omega) (by omega))
    have b0 := b0.only on (by omega)
    have b1 := b1.only on (by omega)
    have bx := bx.only on (by omega)
    have bg := bg.only on (by omega)
    have i1 := i1.only on (by omega)
    clear M on x0 x1
    have H := held_space _ _ _ _ _ D w11 hD1 hD2 ig.own
    obtain ⟨⟨x0, x1⟩, _⟩ := bg.cells
    go_wp2_with (go_at_call 23; refine (H).mono ?_; rintro r w12 ⟨rfl, hb12⟩; refine Hid.out ?_)
    refine Lib.hid ?_
    have sw12 := hb12.size
    have b0 := b0.below hb12
    have b1 := b1.below hb12
    have bx := bx.below hb12
    have bg := bg.below hb12
    have i1 := i1.below hb12
    have ig := ig.below hb12
    have BB := bel_then BB hb12
    clear H x0 x1 hb12
    obtain ⟨⟨x0, x1⟩, _⟩ := b0.cells
    go_wp2_with (go_at_call 26; refine (hT _ BB).mono ?_; rintro r w13 ⟨A13, c13, E13, e13, rfl, o13, hb13⟩; refine Hid.out ?_)
    refine Lib.hid ?_
    have sw13 := hb13.size
    have b0 := b0.below hb13
    have b1 := b1.below hb13
    have bx := bx.below hb13
    have bg := bg.below hb13
    have i1 := i1.below hb13
    have ig := ig.below hb13
    have BB := bel_then BB hb13
    have L := hIm A13 E13 c13 e13 w13 o13.lies
    clear x0 x1 hb13 o13 hIm
    go_wp2_with (go_at_call 35; refine (L).mono ?_; rintro r w14 ⟨A14, c14, E14, e14, rfl, o14, hb14⟩; refine Hid.out ?_)
    refine Lib.hid ?_
    have sw14 := hb14.size
    have b0 := b0.below hb14
    have b1 := b1.below hb14
    have bx := bx.below hb14
    have bg := bg.below hb14
    have i1 := i1.below hb14
    have ig := ig.below hb14
    have BB := bel_then BB hb14
    clear L hb14
    have bh := B2.new w14 24 (.slice A14 D.refs.length c14) (.slice E14 D.last.length e14)
    have bl : Below w14.heap.size w14 (w14.alloc (.cells #[.slice A14 D.refs.length c14, .slice E14 D.last.length e14] 24)) := (Below.refl _ _).alloc (Nat.le_refl _) _
    have BB := bel_then BB bl
    have b0 := b0.below bl
    have b1 := b1.below bl
    have bx := bx.below bl
    have bg := bg.below bl
    have i1 := i1.below bl
    have ig := ig.below bl
    have o14 := o14.below bl
    clear bl
    have E := eq_own hD1 hD2 o14 i1.own
    obtain ⟨⟨x0, x1⟩, _⟩ := b1.cells
    obtain ⟨⟨y0, y1⟩, _⟩ := bh.cells
    go_wp2_with (go_at_call 21; refine (E).mono ?_; rintro r w15 ⟨rfl, hb15⟩; refine Hid.out ?_)
    refine Lib.hid ?_
    have sw15 := hb15.size
    rw [World.size_alloc] at sw15
    have b0 := b0.below hb15
    have b1 := b1.below hb15
    have bx := bx.below hb15
    have bg := bg.below hb15
    have bh := bh.below hb15
    have i1 := i1.below hb15
    have ig := ig.below hb15
    have o14 := o14.below hb15
    have BB := bel_then BB hb15
    clear E x0 x1 y0 y1 hb15
    have H := held_space _ _ _ _ _ D w15 hD1 hD2 ig.own
    obtain ⟨⟨x0, x1⟩, _⟩ := bg.cells
    go_wp2_with (go_at_call 23; refine H.mono ?_; rintro r w16 ⟨rfl, hb16⟩)
    go_ret
    exact ⟨rfl, bel_then BB hb16⟩

set_option maxRecDepth 100000 in
set_option maxHeartbeats 8000000 in
theorem walk_egive (A B : Option Addr) (c e : Nat) (d : Sp) (n : Int) (hwn : (Lit.int .i64 n).wf = true) (w : World) (hA : SArg w A B d) :
    Calls Try.prog 8 #[.agg #[.slice A d.refs.length c, .slice B d.last.length e], .int .i64 n] w fun r w' => r = .returned (.bool true) ∧ Below w.heap.size w w' := by
  have b0 := B2.new w 29 (.slice A d.refs.length c) (.slice B d.last.length e)
  have BB := bel_new (Below.refl w.heap.size w) (.cells #[.slice A d.refs.length c, .slice B d.last.length e] 29)
  have hS := fun W => sz_space A B c e d.refs.length d.last.length 1048576 W (by omega) (by omega) hA.n hA.m
  obtain ⟨hn, hm, hA⟩ := hA
  go_enter Try.func8, Try.ntmps8
  go_wp2_with (go_at_call 24; refine (hS _).mono ?_; rintro r w1 ⟨z, rfl, hb1, hz⟩; refine Hid.out ?_)
  refine Lib.hid ?_
  have sw1 := hb1.size
  rw [World.size_alloc] at sw1
  have b0 := b0.below hb1
  have BB := bel_then BB hb1
  clear hS hb1
  by_cases hzz : z < 0
  · obtain ⟨⟨x0, x1⟩, _⟩ := b0.cells
    go_wp2_with fail
    go_ret
    exact ⟨rfl, BB⟩
  have hz := hz (by omega)
  have hd : d.refs.length ≤ 1048576 ∧ d.last.length ≤ 1048576 := ⟨by omega, by omega⟩
  have hT := fun W hW => to_space A B c e d W hd.1 hd.2 (hA.below (w' := W) hW)
  have hSp := fun A B c e W hW => spec_give A B c e d n W hd.1 hd.2 hW
  have hIm := fun A B c e W hW => impl_give A B c e d n W hwn hd.1 hd.2 hW
  have hDn : ((giveS d n).1).refs.length ≤ 1048576 ∧ ((giveS d n).1).last.length ≤ 1048576 := give_len d n
  obtain ⟨D, hD⟩ : ∃ D, D = (giveS d n).1 := ⟨_, rfl⟩
  rw [← hD] at hDn
  obtain ⟨b, hb⟩ : ∃ b, b = (giveS d n).2 := ⟨_, rfl⟩
  simp only [← hD, ← hb] at hSp hIm
  have hbb : (b != b) = false := by simp
  clear hD hb
  obtain ⟨hD1, hD2⟩ := hDn
  have nn : ¬ (1 + (d.refs.length : Int) + (d.last.length : Int)) < 0 := by omega
  have nn2 : ¬ (1 + (D.refs.length : Int) + (D.last.length : Int)) < 0 := by omega
  have nq : ((1 + (D.refs.length : Int) + (D.last.length : Int)) != (1 + (D.refs.length : Int) + (D.last.length : Int))) = false := by simp
  clear hn hm hz
  obtain ⟨⟨x0, x1⟩, _⟩ := b0.cells
  go_wp2_with (go_at_call 26; refine (hT _ BB).mono ?_; rintro r w2 ⟨A2, c2, E2, e2, rfl, o2, hb2⟩; refine Hid.out ?_)
  refine Lib.hid ?_
  have sw2 := hb2.size
  have b0 := b0.below hb2
  have BB := bel_then BB hb2
  have L := hSp A2 E2 c2 e2 w2 o2.lies
  clear x0 x1 hb2 o2 hSp
  go_wp2_with (go_at_call 36; refine (L).mono ?_; rintro r w3 ⟨A3, c3, E3, e3, rfl, o3, hb3⟩; refine Hid.out ?_)
  refine Lib.hid ?_
  have sw3 := hb3.size
  have b0 := b0.below hb3
  have BB := bel_then BB hb3
  have i1 := o3.in_
  clear L hb3 o3
  have b1 := B2.new w3 24 (.slice A3 D.refs.length c3) (.slice E3 D.last.length e3)
  have bl : Below w3.heap.size w3 (w3.alloc (.cells #[.slice A3 D.refs.length c3, .slice E3 D.last.length e3] 24)) := (Below.refl _ _).alloc (Nat.le_refl _) _
  have BB := bel_then BB bl
  have b0 := b0.below bl
  have i1 := i1.below bl
  clear bl
  obtain ⟨⟨x0, x1⟩, _⟩ := b0.cells
  go_wp2_with (go_at_call 26; refine (hT _ BB).mono ?_; rintro r w4 ⟨A4, c4, E4, e4, rfl, o4, hb4⟩; refine Hid.out ?_)
  refine Lib.hid ?_
  have sw4 := hb4.size
  rw [World.size_alloc] at sw4
  have b0 := b0.below hb4
  have b1 := b1.below hb4
  have i1 := i1.below hb4
  have BB := bel_then BB hb4
  have ix := o4.in_
  rw [World.size_alloc] at ix
  clear x0 x1 hb4 o4
  have bx := B2.new w4 24 (.slice A4 d.refs.length c4) (.slice E4 d.last.length e4)
  have bl : Below w4.heap.size w4 (w4.alloc (.cells #[.slice A4 d.refs.length c4, .slice E4 d.last.length e4] 24)) := (Below.refl _ _).alloc (Nat.le_refl _) _
  have BB := bel_then BB bl
  have b0 := b0.below bl
  have b1 := b1.below bl
  have i1 := i1.below bl
  have ix := ix.below bl
  clear bl
  have L := hIm A4 E4 c4 e4 _ ix.own.lies
  obtain ⟨⟨x0, x1⟩, _⟩ := bx.cells
  go_wp2_with (go_at_call 37; refine (L).mono ?_; rintro r w5 ⟨A5, c5, E5, e5, rfl, o5, hb5⟩; refine Hid.out ?_)
  refine Lib.hid ?_
  have sw5 := hb5.size
  rw [World.size_alloc] at sw5
  have b0 := b0.below hb5
  have b1 := b1.below hb5
  have bx := bx.below hb5
  have i1 := i1.below hb5
  have ix := ix.below hb5
  have BB := bel_then BB hb5
  have ig := o5.in_
  rw [World.size_alloc] at ig
  clear L x0 x1 hb5 o5
  have bg := B2.new w5 24 (.slice A5 D.refs.length c5) (.slice E5 D.last.length e5)
  have bl : Below w5.heap.size w5 (w5.alloc (.cells #[.slice A5 D.refs.length c5, .slice E5 D.last.length e5] 24)) := (Below.refl _ _).alloc (Nat.le_refl _) _
  have BB := bel_then BB bl
  have b0 := b0.below bl
  have b1 := b1.below bl
  have bx := bx.below bl
  have i1 := i1.below bl
  have ix := ix.below bl
  have ig := ig.below bl
  clear bl
  have E := eq_own hD1 hD2 ig.own i1.own
  obtain ⟨⟨x0, x1⟩, _⟩ := b1.cells
  obtain ⟨⟨y0, y1⟩, _⟩ := bg.cells
  go_wp2_with (go_at_call 21; refine (E).mono ?_; rintro r w6 ⟨rfl, hb6⟩; refine Hid.out ?_)
  refine Lib.hid ?_
  have sw6 := hb6.size
  rw [World.size_alloc] at sw6
  have b0 := b0.below hb6
  have b1 := b1.below hb6
  have bx := bx.below hb6
  have bg := bg.below hb6
  have i1 := i1.below hb6
  have ix := ix.below hb6
  have ig := ig.below hb6
  have BB := bel_then BB hb6
  clear E x0 x1 y0 y1 hb6
  obtain ⟨⟨x0, x1⟩, _⟩ := b0.cells
  obtain ⟨⟨y0, y1⟩, _⟩ := bx.cells
  have hTd := hT w6.drew BB.drew
  have ixd : SpIn w6.drew _ _ _ d := ix
  go_upto_region 10 with fail
  go_cut [49] (fun s wx => s = .bool false ∧ Below w6.heap.size w6 wx)
  case first =>
    first
      | go_region_with (first
        | (go_at_call 26; refine hTd.mono ?_; rintro r w7 ⟨A7, c7, E7, e7, rfl, o7, hb7⟩; obtain ⟨⟨y0, y1⟩, _⟩ := (bx.drew.below hb7).cells; have E := eq_own hd.1 hd.2 (ixd.below hb7).own o7)
        | (go_at_call 21; refine E.mono ?_; rintro r w8 ⟨rfl, hb8⟩))
      | fail "region"
    all_goals go_wp2_with fail
    all_goals go_meet
    all_goals exact ⟨rfl, bel_then (bel_then (Below.refl _ _).drew hb7) hb8⟩
  case rest =>
    obtain ⟨rfl, hb8⟩ := hcut
    obtain ⟨w8, e8, hb8⟩ : ∃ W, W = _ ∧ Below w6.heap.size w6 W := ⟨_, rfl, hb8⟩
    subst e8
    have sw8 := hb8.size
    have b0 := b0.below hb8
    have b1 := b1.below hb8
    have bx := bx.below hb8
    have bg := bg.below hb8
    have i1 := i1.below hb8
    have ix := ix.below hb8
    have ig := ig.below hb8
    have BB := bel_then BB hb8
    clear x0 x1 y0 y1 hTd ixd hb8
    have M := mark_space (w3.heap.size + 1) w4.heap.size _ _ _ _ d w8 hd.1 hd.2 (by omega) ix
    clear ix
    obtain ⟨⟨x0, x1⟩, _⟩ := bx.cells
    go_wp2_with (go_at_call 22; refine (M).mono ?_; rintro r w9 ⟨rfl, ix, on⟩; refine Hid.out ?_)
    refine Lib.hid ?_
    have sw9 := on.size
    have BB := BB.trans (on.below (B := w.heap.size) (by omega) (by omega))
    have b0 := b0.only on (by omega)
    have b1 := b1.only on (by omega)
    have bx := bx.only on (by omega)
    have bg := bg.only on (by omega)
    have i1 := i1.only on (by omega)
    have ig := ig.only on (by omega)
    clear M on ix x0 x1
    have E := eq_own hD1 hD2 ig.own i1.own
    obtain ⟨⟨x0, x1⟩, _⟩ := b1.cells
    obtain ⟨⟨y0, y1⟩, _⟩ := bg.cells
    go_wp2_with (go_at_call 21; refine (E).mono ?_; rintro r w10 ⟨rfl, hb10⟩; refine Hid.out ?_)
    refine Lib.hid ?_
    have sw10 := hb10.size
    have b0 := b0.below hb10
    have b1 := b1.below hb10
    have bx := bx.below hb10
    have bg := bg.below hb10
    have i1 := i1.below hb10
    have ig := ig.below hb10
    have BB := bel_then BB hb10
    clear E x0 x1 y0 y1 hb10
    have M := mark_space (w4.heap.size + 1) w5.heap.size _ _ _ _ D w10 hD1 hD2 (by omega) ig
    clear ig
    obtain ⟨⟨x0, x1⟩, _⟩ := bg.cells
    go_wp2_with (go_at_call 22; refine (M).mono ?_; rintro r w11 ⟨rfl, ig, on⟩; refine Hid.out ?_)
    refine Lib.hid ?_
    have sw11 := on.size
    have BB := BB.trans (on.below (B := w.heap.size) (by omega) (by omega))
    have b0 := b0.only on (by omega)
    have b1 := b1.only on (by omega)
    have bx := bx.only on (by omega)
    have bg := bg.only on (by omega)
    have i1 := i1.only on (by omega)
    clear M on x0 x1
    have H := held_space _ _ _ _ _ D w11 hD1 hD2 ig.own
    obtain ⟨⟨x0, x1⟩, _⟩ := bg.cells
    go_wp2_with (go_at_call 23; refine (H).mono ?_; rintro r w12 ⟨rfl, hb12⟩; refine Hid.out ?_)
    refine Lib.hid ?_
    have sw12 := hb12.size
    have b0 := b0.below hb12
    have b1 := b1.below hb12
    have bx := bx.below hb12
    have bg := bg.below hb12
    have i1 := i1.below hb12
    have ig := ig.below hb12
    have BB := bel_then BB hb12
    clear H x0 x1 hb12
    obtain ⟨⟨x0, x1⟩, _⟩ := b0.cells
    go_wp2_with (go_at_call 26; refine (hT _ BB).mono ?_; rintro r w13 ⟨A13, c13, E13, e13, rfl, o13, hb13⟩; refine Hid.out ?_)
    refine Lib.hid ?_
    have sw13 := hb13.size
    have b0 := b0.below hb13
    have b1 := b1.below hb13
    have bx := bx.below hb13
    have bg := bg.below hb13
    have i1 := i1.below hb13
    have ig := ig.below hb13
    have BB := bel_then BB hb13
    have L := hIm A13 E13 c13 e13 w13 o13.lies
    clear x0 x1 hb13 o13 hIm
    go_wp2_with (go_at_call 37; refine (L).mono ?_; rintro r w14 ⟨A14, c14, E14, e14, rfl, o14, hb14⟩; refine Hid.out ?_)
    refine Lib.hid ?_
    have sw14 := hb14.size
    have b0 := b0.below hb14
    have b1 := b1.below hb14
    have bx := bx.below hb14
    have bg := bg.below hb14
    have i1 := i1.below hb14
    have ig := ig.below hb14
    have BB := bel_then BB hb14
    clear L hb14
    have bh := B2.new w14 24 (.slice A14 D.refs.length c14) (.slice E14 D.last.length e14)
    have bl : Below w14.heap.size w14 (w14.alloc (.cells #[.slice A14 D.refs.length c14, .slice E14 D.last.length e14] 24)) := (Below.refl _ _).alloc (Nat.le_refl _) _
    have BB := bel_then BB bl
    have b0 := b0.below bl
    have b1 := b1.below bl
    have bx := bx.below bl
    have bg := bg.below bl
    have i1 := i1.below bl
    have ig := ig.below bl
    have o14 := o14.below bl
    clear bl
    have E := eq_own hD1 hD2 o14 i1.own
    obtain ⟨⟨x0, x1⟩, _⟩ := b1.cells
    obtain ⟨⟨y0, y1⟩, _⟩ := bh.cells
    go_wp2_with (go_at_call 21; refine (E).mono ?_; rintro r w15 ⟨rfl, hb15⟩; refine Hid.out ?_)
    refine Lib.hid ?_
    have sw15 := hb15.size
    rw [World.size_alloc] at sw15
    have b0 := b0.below hb15
    have b1 := b1.below hb15
    have bx := bx.below hb15
    have bg := bg.below hb15
    have bh := bh.below hb15
    have i1 := i1.below hb15
    have ig := ig.below hb15
    have o14 := o14.below hb15
    have BB := bel_then BB hb15
    clear E x0 x1 y0 y1 hb15
    have H := held_space _ _ _ _ _ D w15 hD1 hD2 ig.own
    obtain ⟨⟨x0, x1⟩, _⟩ := bg.cells
    go_wp2_with (go_at_call 23; refine H.mono ?_; rintro r w16 ⟨rfl, hb16⟩)
    go_ret
    exact ⟨rfl, bel_then BB hb16⟩
end Go.Proofs.Ytlmemjfinpccoaa
