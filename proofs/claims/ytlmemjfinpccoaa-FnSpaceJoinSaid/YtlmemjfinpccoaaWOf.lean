/-
  FnExactSpaceOf's walk.
-/
import Derived.Test.YtlmemjfinpccoaaOfI
import Derived.Test.YtlmemjfinpccoaaArg
namespace Go.Proofs.Ytlmemjfinpccoaa
open Go.RowKit

theorem PtrsAt.arg {W : World} {g : Nat} {ps : List P5} (h : PtrsAt W g ps) : PArg W (some ⟨g, 0, none⟩) ps := fun _ =>
  ⟨g, 0, rfl, h.1, fun j hj k v hk hv => by
    have := h.2 (5 * j + k) v ((flat_at ps j k hj hk).trans hv)
    rwa [Nat.mul_comm] at this⟩
theorem of_len (ps : List P5) : (ofS ps).1.refs.length ≤ 1048576 ∧ (ofS ps).1.last.length ≤ 1048576 := by
  unfold ofS
  split
  · rename_i h
    have := spOf_len (Few.of (Nat.le_refl ps.length) h).len
    rw [List.take_length] at this
    simp only [this]
    omega
  · simp [noS]

set_option maxRecDepth 100000 in
set_option maxHeartbeats 8000000 in
theorem walk_eof (A : Option Addr) (cap : Nat) (ps : List P5) (w : World) (hn : ps.length ≤ maxLen) (hA : PArg w A ps) :
    Calls Try.prog 9 #[.slice A ps.length cap] w fun r w' => r = .returned (.bool true) ∧ Below w.heap.size w w' := by
  have hS := fun W => sz_ptrs A cap ps.length W hn
  by_cases hbig : 1048576 < ps.length
  · have hi : (if (1048576 : Int) < (ps.length : Int) then -1 else 1048576 - (ps.length : Int)) = -1 := if_pos (by omega)
    simp only [hi] at hS
    clear hi hA hbig hn
    go_enter Try.func9, Try.ntmps9
    go_wp2_with (go_at_call 38; refine (hS _).mono ?_; rintro r w' ⟨rfl, rfl⟩)
    go_ret
    exact ⟨rfl, Below.refl _ _⟩
  have hi : (if (1048576 : Int) < (ps.length : Int) then -1 else 1048576 - (ps.length : Int)) = 1048576 - (ps.length : Int) := if_neg (by omega)
  simp only [hi] at hS
  have hnn : ¬ (1048576 - (ps.length : Int)) < 0 := by omega
  have hd : ps.length ≤ 1048576 := by omega
  clear hi hbig hn
  have hT := fun W hW => to_ptrs A cap ps W hd (hA.below (W' := W) hW)
  have hSp := fun A c W hW => spec_of A c ps W hd hW
  have hIm := fun A c W hW => impl_of A c ps W hd hW
  have hDn := of_len ps
  obtain ⟨D, hD⟩ : ∃ D, D = (ofS ps).1 := ⟨_, rfl⟩
  rw [← hD] at hDn
  obtain ⟨b, hb⟩ : ∃ b, b = (ofS ps).2 := ⟨_, rfl⟩
  simp only [← hD, ← hb] at hSp hIm
  have hbb : (b != b) = false := by simp
  clear hD hb hA
  obtain ⟨hD1, hD2⟩ := hDn
  have nn : ¬ (1 + 5 * (ps.length : Int)) < 0 := by omega
  have nn2 : ¬ (1 + (D.refs.length : Int) + (D.last.length : Int)) < 0 := by omega
  have nq : ((1 + (D.refs.length : Int) + (D.last.length : Int)) != (1 + (D.refs.length : Int) + (D.last.length : Int))) = false := by simp
  have BB := Below.refl w.heap.size w
  go_enter Try.func9, Try.ntmps9
  go_wp2_with (first | (go_at_call 38; refine (hS _).mono ?_; rintro r w' ⟨rfl, rfl⟩) | (go_at_call 40; refine (hT _ BB).mono ?_; rintro r w2 ⟨g2, rfl, o2, hb2⟩; refine Hid.out ?_))
  refine Lib.hid ?_
  have BB := bel_then BB hb2
  have sw2 := hb2.size
  have L := hSp _ ps.length w2 (PtrsAt.of_own o2).arg
  clear hb2 o2 hSp hS
  go_wp2_with (go_at_call 39; refine (L).mono ?_; rintro r w3 ⟨A3, c3, E3, e3, rfl, o3, hb3⟩; refine Hid.out ?_)
  refine Lib.hid ?_
  have sw3 := hb3.size
  have BB := bel_then BB hb3
  have i1 := o3.in_
  clear L hb3 o3
  have b1 := B2.new w3 24 (.slice A3 D.refs.length c3) (.slice E3 D.last.length e3)
  have bl : Below w3.heap.size w3 (w3.alloc (.cells #[.slice A3 D.refs.length c3, .slice E3 D.last.length e3] 24)) := (Below.refl _ _).alloc (Nat.le_refl _) _
  have i1 := i1.below bl
  have BB := bel_then BB bl
  clear bl
  go_wp2_with (go_at_call 40; refine (hT _ BB).mono ?_; rintro r w4 ⟨g4, rfl, ox, hb4⟩; refine Hid.out ?_)
  refine Lib.hid ?_
  have sw4 := hb4.size
  rw [World.size_alloc] at sw4
  rw [World.size_alloc] at ox
  have b1 := b1.below hb4
  have i1 := i1.below hb4
  have BB := bel_then BB hb4
  clear hb4
  have lx1 := (ox.lt g4 rfl).1
  have lx2 := (ox.lt g4 rfl).2
  have L := hIm _ ps.length w4 (PtrsAt.of_own ox).arg
  go_wp2_with (go_at_call 41; refine (L).mono ?_; rintro r w5 ⟨A5, c5, E5, e5, rfl, o5, hb5⟩; refine Hid.out ?_)
  refine Lib.hid ?_
  have sw5 := hb5.size
  have b1 := b1.below hb5
  have i1 := i1.below hb5
  have ox := own_bel ox hb5
  have BB := bel_then BB hb5
  have ig := o5.in_
  clear L hb5 o5
  have bg := B2.new w5 24 (.slice A5 D.refs.length c5) (.slice E5 D.last.length e5)
  have bl : Below w5.heap.size w5 (w5.alloc (.cells #[.slice A5 D.refs.length c5, .slice E5 D.last.length e5] 24)) := (Below.refl _ _).alloc (Nat.le_refl _) _
  have b1 := b1.below bl
  have i1 := i1.below bl
  have ig := ig.below bl
  have ox := own_bel ox bl
  have BB := bel_then BB bl
  clear bl
  have E := eq_own hD1 hD2 ig.own i1.own
  obtain ⟨⟨x0, x1⟩, _⟩ := b1.cells
  obtain ⟨⟨y0, y1⟩, _⟩ := bg.cells
  go_wp2_with (go_at_call 21; refine (E).mono ?_; rintro r w6 ⟨rfl, hb6⟩; refine Hid.out ?_)
  refine Lib.hid ?_
  have sw6 := hb6.size
  rw [World.size_alloc] at sw6
  have b1 := b1.below hb6
  have bg := bg.below hb6
  have i1 := i1.below hb6
  have ig := ig.below hb6
  have ox := own_bel ox hb6
  have BB := bel_then BB hb6
  clear E x0 x1 y0 y1 hb6
  go_wp2_with (go_at_call 40; refine (hT _ BB).mono ?_; rintro r w7 ⟨g7, rfl, o7, hb7⟩; refine Hid.out ?_)
  refine Lib.hid ?_
  have sw7 := hb7.size
  have b1 := b1.below hb7
  have bg := bg.below hb7
  have i1 := i1.below hb7
  have ig := ig.below hb7
  have ox := own_bel ox hb7
  have BB := bel_then BB hb7
  clear hb7
  have E := eq_ptrs g4 g7 ps.length ps.length ps w7 hd (PtrsAt.of_own ox) (PtrsAt.of_own o7)
  go_wp2_with (go_at_call 42; refine (E).mono ?_; rintro r w8 ⟨rfl, hb8⟩; refine Hid.out ?_)
  refine Lib.hid ?_
  have sw8 := hb8.size
  have b1 := b1.below hb8
  have bg := bg.below hb8
  have i1 := i1.below hb8
  have ig := ig.below hb8
  have ox := own_bel ox hb8
  have o7 := own_bel o7 hb8
  have BB := bel_then BB hb8
  clear E o7 hb8
  have M := mark_ptrs 65 _ g4 ps.length ps.length _ w8 hd ox
  clear ox
  go_wp2_with (go_at_call 43; refine (M).mono ?_; rintro r w9 ⟨rfl, _, hg9⟩; refine Hid.out ?_)
  refine Lib.hid ?_
  have on : Only (w3.heap.size + 1) w4.heap.size w8 w9 := Only.of_grown hg9 (fun k e => by cases e; exact ⟨lx1, lx2⟩)
  have sw9 := on.size
  have BB := BB.trans (on.below (B := w.heap.size) (by omega) (by omega))
  have b1 := b1.only on (by omega)
  have bg := bg.only on (by omega)
  have i1 := i1.only on (by omega)
  have ig := ig.only on (by omega)
  clear M on hg9
  have E := eq_own hD1 hD2 ig.own i1.own
  obtain ⟨⟨x0, x1⟩, _⟩ := b1.cells
  obtain ⟨⟨y0, y1⟩, _⟩ := bg.cells
  go_wp2_with (go_at_call 21; refine (E).mono ?_; rintro r w10 ⟨rfl, hb10⟩; refine Hid.out ?_)
  refine Lib.hid ?_
  have sw10 := hb10.size
  have b1 := b1.below hb10
  have bg := bg.below hb10
  have i1 := i1.below hb10
  have ig := ig.below hb10
  have BB := bel_then BB hb10
  clear E x0 x1 y0 y1 hb10
  have M := mark_space w4.heap.size w5.heap.size _ _ _ _ D w10 hD1 hD2 (by omega) ig
  clear ig
  obtain ⟨⟨x0, x1⟩, _⟩ := bg.cells
  go_wp2_with (go_at_call 22; refine (M).mono ?_; rintro r w11 ⟨rfl, ig, on⟩; refine Hid.out ?_)
  refine Lib.hid ?_
  have sw11 := on.size
  have BB := BB.trans (on.below (B := w.heap.size) (by omega) (by omega))
  have b1 := b1.only on (by omega)
  have bg := bg.only on (by omega)
  have i1 := i1.only on (by omega)
  clear M on x0 x1
  have H := held_space _ _ _ _ _ D w11 hD1 hD2 ig.own
  obtain ⟨⟨x0, x1⟩, _⟩ := bg.cells
  go_wp2_with (go_at_call 23; refine (H).mono ?_; rintro r w12 ⟨rfl, hb12⟩; refine Hid.out ?_)
  refine Lib.hid ?_
  have sw12 := hb12.size
  have b1 := b1.below hb12
  have bg := bg.below hb12
  have i1 := i1.below hb12
  have ig := ig.below hb12
  have BB := bel_then BB hb12
  clear H x0 x1 hb12
  go_wp2_with (go_at_call 40; refine (hT _ BB).mono ?_; rintro r w13 ⟨g13, rfl, o13, hb13⟩; refine Hid.out ?_)
  refine Lib.hid ?_
  have sw13 := hb13.size
  have b1 := b1.below hb13
  have bg := bg.below hb13
  have i1 := i1.below hb13
  have ig := ig.below hb13
  have BB := bel_then BB hb13
  have L := hIm _ ps.length w13 (PtrsAt.of_own o13).arg
  clear hb13 o13 hIm hT
  go_wp2_with (go_at_call 41; refine (L).mono ?_; rintro r w14 ⟨A14, c14, E14, e14, rfl, o14, hb14⟩; refine Hid.out ?_)
  refine Lib.hid ?_
  have sw14 := hb14.size
  have b1 := b1.below hb14
  have bg := bg.below hb14
  have i1 := i1.below hb14
  have ig := ig.below hb14
  have BB := bel_then BB hb14
  clear L hb14
  have bh := B2.new w14 24 (.slice A14 D.refs.length c14) (.slice E14 D.last.length e14)
  have bl : Below w14.heap.size w14 (w14.alloc (.cells #[.slice A14 D.refs.length c14, .slice E14 D.last.length e14] 24)) := (Below.refl _ _).alloc (Nat.le_refl _) _
  have b1 := b1.below bl
  have bg := bg.below bl
  have i1 := i1.below bl
  have ig := ig.below bl
  have o14 := o14.below bl
  have BB := bel_then BB bl
  clear bl
  have E := eq_own hD1 hD2 o14 i1.own
  obtain ⟨⟨x0, x1⟩, _⟩ := b1.cells
  obtain ⟨⟨y0, y1⟩, _⟩ := bh.cells
  go_wp2_with (go_at_call 21; refine (E).mono ?_; rintro r w15 ⟨rfl, hb15⟩; refine Hid.out ?_)
  refine Lib.hid ?_
  have sw15 := hb15.size
  rw [World.size_alloc] at sw15
  have b1 := b1.below hb15
  have bg := bg.below hb15
  have bh := bh.below hb15
  have i1 := i1.below hb15
  have ig := ig.below hb15
  have o14 := o14.below hb15
  have BB := bel_then BB hb15
  clear E x0 x1 y0 y1 hb15
  have H := held_space _ _ _ _ _ D w15 hD1 hD2 ig.own
  obtain ⟨⟨x0, x1⟩, _⟩ := bg.cells
  go_wp2_with (go_at_call 23; refine H.mono ?_; rintro r w16 ⟨rfl, hb16⟩)
  go_ret
  exact ⟨rfl, bel_then BB hb16⟩
end Go.Proofs.Ytlmemjfinpccoaa
