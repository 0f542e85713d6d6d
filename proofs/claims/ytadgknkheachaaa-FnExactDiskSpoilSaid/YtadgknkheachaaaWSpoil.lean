/-
  FnExactDiskSpoil, its walk.
-/
import Derived.Test.YtadgknkheachaaaSpS
import Derived.Test.YtadgknkheachaaaArgs
namespace Go.Proofs.Ytadgknkheachaaa
open Go.RowKit

theorem spoil_bulk {d : Dk} (n : Int) (t : ByteArray) (hd : Bulk d) : (spoilD d n t).1.cells.length ≤ 1048576 ∧ (spoilD d n t).1.waits.length ≤ 1048576 := by
  have h1 := hd.cells
  have h2 := hd.waits
  unfold spoilD
  split
  · exact ⟨by show (d.cells.set _ _).length ≤ _; rw [List.length_set]; exact h1, h2⟩
  · exact ⟨Nat.zero_le _, Nat.zero_le _⟩

set_option maxRecDepth 100000 in
set_option maxHeartbeats 8000000 in
theorem walk_espoil (A B : Option Addr) (c e : Nat) (d : Dk) (n : Int) (t : ByteArray) (w : World) (hA : DArg w A B d) (hsz : t.size ≤ maxLen) :
    Calls Try.prog 9 #[.agg #[.slice A d.cells.length c, .slice B d.waits.length e, .bool d.gone], .int .i64 n, .string t] w fun r w' => r = .returned (.bool true) ∧ Below w.heap.size w w' := by
  have b0 := Bx.new w 32 (.slice A d.cells.length c) (.slice B d.waits.length e) (.bool d.gone)
  have BB := bel_new (Below.refl w.heap.size w) (.cells #[.slice A d.cells.length c, .slice B d.waits.length e, .bool d.gone] 32)
  have hS := sz_disk A B c e d 1048576 _ (by omega) (by omega) hA.n hA.s hA.m hA.t (hA.at_.below BB)
  obtain ⟨hn, hs, hm, ht, hA⟩ := hA
  by_cases hbig : 1048576 < t.size
  · have hbig2 : (1048576 : Int) < (t.size : Int) := by omega
    clear hS hs ht hn hm hA hbig
    go_enter Try.func9, Try.ntmps9
    go_wp2
    go_ret
    exact ⟨rfl, BB⟩
  have hbig2 : ¬ (1048576 : Int) < (t.size : Int) := by omega
  go_enter Try.func9, Try.ntmps9
  go_wp2_with (go_at_call 27; refine (hS).mono ?_; rintro r w1 ⟨z, rfl, hb1, hz⟩; refine Hid.out ?_)
  refine Lib.hid ?_
  have sw1 := hb1.size
  rw [World.size_alloc] at sw1
  have b0 := b0.below hb1
  have BB := bel_then BB hb1
  clear hS hb1
  by_cases hzz : z < 0
  · obtain ⟨⟨x0, x1, x2⟩, _⟩ := b0.cells
    go_wp2_with fail
    go_ret
    exact ⟨rfl, BB⟩
  have hz := hz (by omega)
  have hd : Bulk d := ⟨by omega, by omega, hs, ht⟩
  have hT := fun W hW => to_d A B c e d W hd (hA.below (w' := W) hW)
  have hSp := fun A B c e W hW => spec_spoil A B c e d n t W hd hW hsz
  have hIm := fun A B c e W hW => impl_spoil A B c e d n t W hd hW hsz
  have hDn : ((spoilD d n t).1).cells.length ≤ 1048576 ∧ ((spoilD d n t).1).waits.length ≤ 1048576 := spoil_bulk n t hd
  obtain ⟨D, hD⟩ : ∃ D, D = (spoilD d n t).1 := ⟨_, rfl⟩
  rw [← hD] at hDn
  obtain ⟨b, hb⟩ : ∃ b, b = (spoilD d n t).2 := ⟨_, rfl⟩
  simp only [← hD, ← hb] at hSp hIm
  have hbb : (b != b) = false := by simp
  clear hD hb
  obtain ⟨hD1, hD2⟩ := hDn
  have nn : ¬ (1 + (d.cells.length : Int) + 2 * (d.waits.length : Int)) < 0 := by omega
  have nn2 : ¬ (1 + (D.cells.length : Int) + 2 * (D.waits.length : Int)) < 0 := by omega
  have nq : ((1 + (D.cells.length : Int) + 2 * (D.waits.length : Int)) != (1 + (D.cells.length : Int) + 2 * (D.waits.length : Int))) = false := by simp
  clear hn hs hm ht hz
  obtain ⟨⟨x0, x1, x2⟩, _⟩ := b0.cells
  go_wp2_with (go_at_call 29; refine (hT _ BB).mono ?_; rintro r w2 ⟨A2, c2, B2, e2, rfl, o2, hb2⟩; refine Hid.out ?_)
  refine Lib.hid ?_
  have sw2 := hb2.size
  have b0 := b0.below hb2
  have BB := bel_then BB hb2
  have L := hSp A2 B2 c2 e2 w2 o2.lies
  clear x0 x1 x2 hb2 o2 hSp
  go_wp2_with (go_at_call 39; refine (L).mono ?_; rintro r w3 ⟨A3, c3, B3, e3, rfl, o3, hb3⟩; refine Hid.out ?_)
  refine Lib.hid ?_
  have sw3 := hb3.size
  have b0 := b0.below hb3
  have BB := bel_then BB hb3
  have i1 := o3.in_
  clear L hb3 o3
  have b1 := Bx.new w3 25 (.slice A3 D.cells.length c3) (.slice B3 D.waits.length e3) (.bool D.gone)
  have bl : Below w3.heap.size w3 (w3.alloc (.cells #[.slice A3 D.cells.length c3, .slice B3 D.waits.length e3, .bool D.gone] 25)) := (Below.refl _ _).alloc (Nat.le_refl _) _
  have BB := bel_then BB bl
  have b0 := b0.below bl
  have i1 := i1.below bl
  clear bl
  obtain ⟨⟨x0, x1, x2⟩, _⟩ := b0.cells
  go_wp2_with (go_at_call 29; refine (hT _ BB).mono ?_; rintro r w4 ⟨A4, c4, B4, e4, rfl, o4, hb4⟩; refine Hid.out ?_)
  refine Lib.hid ?_
  have sw4 := hb4.size
  rw [World.size_alloc] at sw4
  have b0 := b0.below hb4
  have b1 := b1.below hb4
  have i1 := i1.below hb4
  have BB := bel_then BB hb4
  have ix := o4.in_
  rw [World.size_alloc] at ix
  clear x0 x1 x2 hb4 o4
  have bx := Bx.new w4 25 (.slice A4 d.cells.length c4) (.slice B4 d.waits.length e4) (.bool d.gone)
  have bl : Below w4.heap.size w4 (w4.alloc (.cells #[.slice A4 d.cells.length c4, .slice B4 d.waits.length e4, .bool d.gone] 25)) := (Below.refl _ _).alloc (Nat.le_refl _) _
  have BB := bel_then BB bl
  have b0 := b0.below bl
  have b1 := b1.below bl
  have i1 := i1.below bl
  have ix := ix.below bl
  clear bl
  have L := hIm A4 B4 c4 e4 _ ix.own.lies
  obtain ⟨⟨x0, x1, x2⟩, _⟩ := bx.cells
  go_wp2_with (go_at_call 40; refine (L).mono ?_; rintro r w5 ⟨A5, c5, B5, e5, rfl, o5, hb5⟩; refine Hid.out ?_)
  refine Lib.hid ?_
  have sw5 := hb5.size
  rw [World.size_alloc] at sw5
  have b0 := b0.below hb5
  have b1 := b1.below hb5
  have bx := bx.below hb5
  have i1 := i1.below hb5
  have ix := ix.below hb5
  have BB := bel_then BB hb5
  have ig := o5.in_
  rw [World.size_alloc] at ig
  clear L x0 x1 x2 hb5 o5
  have bg := Bx.new w5 25 (.slice A5 D.cells.length c5) (.slice B5 D.waits.length e5) (.bool D.gone)
  have bl : Below w5.heap.size w5 (w5.alloc (.cells #[.slice A5 D.cells.length c5, .slice B5 D.waits.length e5, .bool D.gone] 25)) := (Below.refl _ _).alloc (Nat.le_refl _) _
  have BB := bel_then BB bl
  have b0 := b0.below bl
  have b1 := b1.below bl
  have bx := bx.below bl
  have i1 := i1.below bl
  have ix := ix.below bl
  have ig := ig.below bl
  clear bl
  have E := eq_own hD1 hD2 ig.own i1.own
  obtain ⟨⟨x0, x1, x2⟩, _⟩ := b1.cells
  obtain ⟨⟨y0, y1, y2⟩, _⟩ := bg.cells
  go_wp2_with (go_at_call 24; refine (E).mono ?_; rintro r w6 ⟨rfl, hb6⟩; refine Hid.out ?_)
  refine Lib.hid ?_
  have sw6 := hb6.size
  rw [World.size_alloc] at sw6
  have b0 := b0.below hb6
  have b1 := b1.below hb6
  have bx := bx.below hb6
  have bg := bg.below hb6
  have i1 := i1.below hb6
  have ix := ix.below hb6
  have ig := ig.below hb6
  have BB := bel_then BB hb6
  clear E x0 x1 x2 y0 y1 y2 hb6
  obtain ⟨⟨x0, x1, x2⟩, _⟩ := b0.cells
  obtain ⟨⟨y0, y1, y2⟩, _⟩ := bx.cells
  have hTd := hT w6.drew BB.drew
  have ixd : DkIn w6.drew _ _ _ d := ix
  go_upto_region 12 with fail
  go_cut [56] (fun s wx => s = .bool false ∧ Below w6.heap.size w6 wx)
  case first =>
    first
      | go_region_with (first
        | (go_at_call 29; refine hTd.mono ?_; rintro r w7 ⟨A7, c7, B7, e7, rfl, o7, hb7⟩; obtain ⟨⟨y0, y1, y2⟩, _⟩ := (bx.drew.below hb7).cells; have E := eq_own hd.cells hd.waits (ixd.below hb7).own o7)
        | (go_at_call 24; refine E.mono ?_; rintro r w8 ⟨rfl, hb8⟩))
      | fail "region"
    all_goals go_wp2_with fail
    all_goals go_meet
    all_goals exact ⟨rfl, bel_then (bel_then (Below.refl _ _).drew hb7) hb8⟩
  case rest =>
    obtain ⟨rfl, hb8⟩ := hcut
    obtain ⟨w8, e8, hb8⟩ : ∃ W, W = _ ∧ Below w6.heap.size w6 W := ⟨_, rfl, hb8⟩
    subst e8
    have sw8 := hb8.size
    have b0 := b0.below hb8
    have b1 := b1.below hb8
    have bx := bx.below hb8
    have bg := bg.below hb8
    have i1 := i1.below hb8
    have ix := ix.below hb8
    have ig := ig.below hb8
    have BB := bel_then BB hb8
    clear x0 x1 x2 y0 y1 y2 hTd ixd hb8
    have M := mark_disk (w3.heap.size + 1) w4.heap.size _ d w8 hd.cells hd.waits (by omega) ix
    clear ix
    obtain ⟨⟨x0, x1, x2⟩, _⟩ := bx.cells
    go_wp2_with (go_at_call 25; refine (M).mono ?_; rintro r w9 ⟨rfl, ix, on⟩; refine Hid.out ?_)
    refine Lib.hid ?_
    have sw9 := on.size
    have BB := BB.trans (on.below (B := w.heap.size) (by omega) (by omega))
    have b0 := b0.only on (by omega)
    have b1 := b1.only on (by omega)
    have bx := bx.only on (by omega)
    have bg := bg.only on (by omega)
    have i1 := i1.only on (by omega)
    have ig := ig.only on (by omega)
    clear M on ix x0 x1 x2
    have E := eq_own hD1 hD2 ig.own i1.own
    obtain ⟨⟨x0, x1, x2⟩, _⟩ := b1.cells
    obtain ⟨⟨y0, y1, y2⟩, _⟩ := bg.cells
    go_wp2_with (go_at_call 24; refine (E).mono ?_; rintro r w10 ⟨rfl, hb10⟩; refine Hid.out ?_)
    refine Lib.hid ?_
    have sw10 := hb10.size
    have b0 := b0.below hb10
    have b1 := b1.below hb10
    have bx := bx.below hb10
    have bg := bg.below hb10
    have i1 := i1.below hb10
    have ig := ig.below hb10
    have BB := bel_then BB hb10
    clear E x0 x1 x2 y0 y1 y2 hb10
    have M := mark_disk (w4.heap.size + 1) w5.heap.size _ D w10 hD1 hD2 (by omega) ig
    clear ig
    obtain ⟨⟨x0, x1, x2⟩, _⟩ := bg.cells
    go_wp2_with (go_at_call 25; refine (M).mono ?_; rintro r w11 ⟨rfl, ig, on⟩; refine Hid.out ?_)
    refine Lib.hid ?_
    have sw11 := on.size
    have BB := BB.trans (on.below (B := w.heap.size) (by omega) (by omega))
    have b0 := b0.only on (by omega)
    have b1 := b1.only on (by omega)
    have bx := bx.only on (by omega)
    have bg := bg.only on (by omega)
    have i1 := i1.only on (by omega)
    clear M on x0 x1 x2
    have H := held_disk _ _ D w11 hD1 hD2 ig.own
    obtain ⟨⟨x0, x1, x2⟩, _⟩ := bg.cells
    go_wp2_with (go_at_call 26; refine (H).mono ?_; rintro r w12 ⟨rfl, hb12⟩; refine Hid.out ?_)
    refine Lib.hid ?_
    have sw12 := hb12.size
    have b0 := b0.below hb12
    have b1 := b1.below hb12
    have bx := bx.below hb12
    have bg := bg.below hb12
    have i1 := i1.below hb12
    have ig := ig.below hb12
    have BB := bel_then BB hb12
    clear H x0 x1 x2 hb12
    obtain ⟨⟨x0, x1, x2⟩, _⟩ := b0.cells
    go_wp2_with (go_at_call 29; refine (hT _ BB).mono ?_; rintro r w13 ⟨A13, c13, B13, e13, rfl, o13, hb13⟩; refine Hid.out ?_)
    refine Lib.hid ?_
    have sw13 := hb13.size
    have b0 := b0.below hb13
    have b1 := b1.below hb13
    have bx := bx.below hb13
    have bg := bg.below hb13
    have i1 := i1.below hb13
    have ig := ig.below hb13
    have BB := bel_then BB hb13
    have L := hIm A13 B13 c13 e13 w13 o13.lies
    clear x0 x1 x2 hb13 o13 hIm
    go_wp2_with (go_at_call 40; refine (L).mono ?_; rintro r w14 ⟨A14, c14, B14, e14, rfl, o14, hb14⟩; refine Hid.out ?_)
    refine Lib.hid ?_
    have sw14 := hb14.size
    have b0 := b0.below hb14
    have b1 := b1.below hb14
    have bx := bx.below hb14
    have bg := bg.below hb14
    have i1 := i1.below hb14
    have ig := ig.below hb14
    have BB := bel_then BB hb14
    clear L hb14
    have bh := Bx.new w14 25 (.slice A14 D.cells.length c14) (.slice B14 D.waits.length e14) (.bool D.gone)
    have bl : Below w14.heap.size w14 (w14.alloc (.cells #[.slice A14 D.cells.length c14, .slice B14 D.waits.length e14, .bool D.gone] 25)) := (Below.refl _ _).alloc (Nat.le_refl _) _
    have BB := bel_then BB bl
    have b0 := b0.below bl
    have b1 := b1.below bl
    have bx := bx.below bl
    have bg := bg.below bl
    have i1 := i1.below bl
    have ig := ig.below bl
    have o14 := o14.below bl
    clear bl
    have E := eq_own hD1 hD2 o14 i1.own
    obtain ⟨⟨x0, x1, x2⟩, _⟩ := b1.cells
    obtain ⟨⟨y0, y1, y2⟩, _⟩ := bh.cells
    go_wp2_with (go_at_call 24; refine (E).mono ?_; rintro r w15 ⟨rfl, hb15⟩; refine Hid.out ?_)
    refine Lib.hid ?_
    have sw15 := hb15.size
    rw [World.size_alloc] at sw15
    have b0 := b0.below hb15
    have b1 := b1.below hb15
    have bx := bx.below hb15
    have bg := bg.below hb15
    have bh := bh.below hb15
    have i1 := i1.below hb15
    have ig := ig.below hb15
    have o14 := o14.below hb15
    have BB := bel_then BB hb15
    clear E x0 x1 x2 y0 y1 y2 hb15
    have H := held_disk _ _ D w15 hD1 hD2 ig.own
    obtain ⟨⟨x0, x1, x2⟩, _⟩ := bg.cells
    go_wp2_with (go_at_call 26; refine H.mono ?_; rintro r w16 ⟨rfl, hb16⟩)
    go_ret
    exact ⟨rfl, bel_then BB hb16⟩
end Go.Proofs.Ytadgknkheachaaa
