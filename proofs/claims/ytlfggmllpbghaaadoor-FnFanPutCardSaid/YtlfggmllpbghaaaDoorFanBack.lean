/-
  FnFanGet, its walk: just texts of lists of pointers are read.
-/
import Derived.Test.YtlfggmllpbghaaaDoorDrawFanG
import Derived.Test.YtlfggmllpbghaaaDoorFanForth
import Derived.Test.YtlfggmllpbghaaaDoorFanH
import Derived.Test.YtlfggmllpbghaaaDoorFanI
import Derived.Test.YtlfggmllpbghaaaDoorMarkP
import Derived.Test.YtlfggmllpbghaaaDoorPf
namespace Go.Proofs.YtlfggmllpbghaaaDoor
open Go.RowKit
set_option linter.unusedVariables false

theorem fan_no {ps : List P5} {t : TypeId} {W w' : World} {e : Ending} (h : FanPost (ps, false) t W e w') : ∃ (A : Option Addr) (c : Nat), e = .returned (.tuple #[.slice A 0 c, .bool false]) ∧ Below W.heap.size W w' := by
  obtain ⟨hb, ⟨h1, _⟩ | ⟨_, A, c, he⟩⟩ := h
  · exact absurd (show false = true from h1) (by decide)
  · exact ⟨A, c, he, hb⟩
theorem fan_yes {ps : List P5} {t : TypeId} {W w' : World} {e : Ending} (h : FanPost (ps, true) t W e w') : ∃ g c : Nat, e = .returned (.tuple #[.slice (some ⟨g, 0, none⟩) ps.length c, .bool true]) ∧ PtrsAt w' g ps ∧ Below W.heap.size W w' := by
  obtain ⟨hb, ⟨_, g, c, he, ho⟩ | ⟨h1, _⟩⟩ := h
  · exact ⟨g, c, he, PtrsAt.of_ownt ho, hb⟩
  · exact absurd (show true = false from h1) (by decide)

set_option maxRecDepth 100000 in
set_option maxHeartbeats 2000000 in
theorem walk_fget (A : Option Addr) (n cap : Nat) (w : World) (hn : n ≤ cap) (hA : BytesAt w A n) (hE : Env w) :
    Calls Tryd.prog 8 #[.slice A n cap] w fun e w' => e = .returned (.bool true) ∧ Below w.heap.size w w' := by
  by_cases h1 : (1048576 : Int) < (n : Int)
  · go_enter Tryd.func8, Tryd.ntmps8
    go_wp2
    go_ret
    exact ⟨rfl, Below.refl _ _⟩
  · have hD := draw_fang A n cap w hn hA
    have hI := fun (s : ByteArray) (hs : s.size ≤ 1048576) (W : World) (hb : Below w.heap.size w W) => impl_fanget s W hs (hE.at hb)
    have hP := fun (ps : List P5) (g c : Nat) (W : World) (hb : Below w.heap.size w W) (Y : PtrsAt W g ps) => impl_fput ps g c W Y (hE.1.at hb)
    clear hE hA
    go_enter Tryd.func8, Tryd.ntmps8
    go_wp2_with (go_at_call 31; refine hD.mono ?_; rintro r w1 ⟨s, rfl, hs, b1⟩; refine Hid.out ?_)
    refine Lib.hid ?_
    clear hD
    have hI1 := hI s (by omega)
    have hS1 := fun W => spec_fanget s W (by omega)
    have hff := @fan_forth s
    obtain ⟨⟨ps, o⟩, hq⟩ : ∃ q, q = fanR s := ⟨_, rfl⟩
    rw [← hq] at hI1 hS1 hff
    clear hq hI
    cases o with
    | false =>
      have hI2 := fun W hb => (hI1 W hb).mono fun e w' h => fan_no h
      have hS2 := fun W => (hS1 W).mono fun e w' h => fan_no h
      clear hP hff hI1 hS1
      go_wp2_with (first
        | (go_at_call 29; refine (hI2 _ b1).mono ?_; rintro r w2 ⟨A2, c2, rfl, b2⟩)
        | (go_at_call 32; refine (hS2 _).mono ?_; rintro r w3 ⟨A3, c3, rfl, b3⟩)
        | (go_at_call 30; refine (pf_none A2 A3 c2 c3 _).mono ?_; rintro r w4 ⟨rfl, b4⟩))
      go_ret
      exact ⟨rfl, bel_then (bel_then (bel_then b1 b2) b3) b4⟩
    | true =>
      obtain ⟨hl, hfg⟩ := hff rfl
      have hI2 := fun W hb => (hI1 W hb).mono fun e w' h => fan_yes h
      have hS2 := fun W => (hS1 W).mono fun e w' h => fan_yes h
      have hP2 : ∀ (g c : Nat) (W : World), Below w.heap.size w W → PtrsAt W g ps → Calls Tryd.prog 27 #[.slice (some ⟨g, 0, none⟩) ps.length c] W fun r w' => r = .returned (.tuple #[.string s, .bool true]) ∧ Below W.heap.size W w' := fun g c W hb Y => by
        have := hP ps g c W hb Y
        rw [hfg] at this
        exact this
      have hF := fun (g h cg ch : Nat) (W : World) (y1 : PtrsAt W g ps) (y2 : PtrsAt W h ps) => pf_ptrs g h cg ch ps W (by omega) y1 y2
      clear hP hI1 hS1 hl hfg hff
      go_wp2_with (first
        | (go_at_call 29; refine (hI2 _ b1).mono ?_; rintro r w2 ⟨g, c, rfl, Y2, b2⟩)
        | (go_at_call 32; refine (hS2 _).mono ?_; rintro r w3 ⟨h, ch, rfl, Y3, b3⟩; have Y2b := Y2.below b3)
        | (go_at_call 30; refine (hF g h c ch _ Y2b Y3).mono ?_; rintro r w4 ⟨rfl, b4⟩; have Y4 := Y2b.below b4; have B4 := bel_then (bel_then (bel_then b1 b2) b3) b4)
        | (go_at_call 27; refine (hP2 g c _ B4 Y4).mono ?_; rintro r w5 ⟨rfl, b5⟩))
      go_ret
      exact ⟨rfl, bel_then B4 b5⟩
end Go.Proofs.YtlfggmllpbghaaaDoor
