/-
  FnFanPut, its walk: lists of pointers are read back, and lie in a block.
-/
import Derived.Test.YtlfggmllpbghaaaDoorDrawFanP
import Derived.Test.YtlfggmllpbghaaaDoorFanPure
import Derived.Test.YtlfggmllpbghaaaDoorFanBack
namespace Go.Proofs.YtlfggmllpbghaaaDoor
open Go.RowKit
set_option linter.unusedVariables false

set_option maxRecDepth 100000 in
set_option maxHeartbeats 2000000 in
theorem walk_fput (A : Option Addr) (n cap : Nat) (w : World) (hn : n ≤ cap) (hA : BytesAt w A n) (hE : Env w) :
    Calls Tryd.prog 7 #[.slice A n cap] w fun e w' => e = .returned (.bool true) ∧ Below w.heap.size w w' := by
  by_cases h1 : (1048576 : Int) < (n : Int)
  · go_enter Tryd.func7, Tryd.ntmps7
    go_wp2
    go_ret
    exact ⟨rfl, Below.refl _ _⟩
  · have hD := draw_fanp A n cap w hn hA
    have hI := fun (s : ByteArray) (hs : s.size ≤ 1048576) (W : World) (hb : Below w.heap.size w W) => impl_fanget s W hs (hE.at hb)
    have hP := fun (ps : List P5) (g c : Nat) (W : World) (hb : Below w.heap.size w W) (Y : PtrsAt W g ps) => impl_fput ps g c W Y (hE.1.at hb)
    clear hE hA
    go_enter Tryd.func7, Tryd.ntmps7
    go_wp2_with (go_at_call 26; refine hD.mono ?_; rintro r w1 ⟨ps, g, c, rfl, hl, Y1, b1⟩; refine Hid.out ?_)
    refine Lib.hid ?_
    clear hD
    have hP1 := hP ps
    have hS1 := spec_fput ps
    have hfb := @fan_back2 ps
    have hsh : (fanG ps).2 = true → (fanG ps).1.size ≤ 128 := fun h => (fan_back2 (s := (fanG ps).1) (by rw [← h])).2
    obtain ⟨⟨s, o⟩, hq⟩ : ∃ q, q = fanG ps := ⟨_, rfl⟩
    rw [← hq] at hP1 hS1 hfb
    have hP2 : ∀ (g c : Nat) (W : World), Below w.heap.size w W → PtrsAt W g ps → Calls Tryd.prog 27 #[.slice (some ⟨g, 0, none⟩) ps.length c] W fun r w' => r = .returned (.tuple #[.string s, .bool o]) ∧ Below W.heap.size W w' := hP1
    have hS2 : ∀ (b cap : Nat) (W : World), PtrsAt W b ps → Calls Tryd.prog 28 #[.slice (some ⟨b, 0, none⟩) ps.length cap] W fun r w' => r = .returned (.tuple #[.string s, .bool o]) ∧ Below W.heap.size W w' := hS1
    have hF := fun (g h cg ch : Nat) (W : World) (y1 : PtrsAt W g ps) (y2 : PtrsAt W h ps) => pf_ptrs g h cg ch ps W (by omega) y1 y2
    have hss : (s.toList == s.toList) = true := by simp
    clear hP hP1 hS1 hq hsh hl
    cases o with
    | false =>
      clear hI hfb hF
      go_wp2_with (first
        | (go_at_call 27; refine (hP2 g c _ b1 Y1).mono ?_; rintro r w2 ⟨rfl, b2⟩; have Y2 := Y1.below b2; have B2 := bel_then b1 b2)
        | (go_at_call 28; refine (hS2 g c _ Y2).mono ?_; rintro r w3 ⟨rfl, b3⟩; have Y3 := Y2.below b3; have B3 := bel_then B2 b3))
      go_ret
      exact ⟨rfl, B3⟩
    | true =>
      obtain ⟨hr, hsz⟩ := hfb rfl
      have hI1 := hI s (by omega)
      rw [hr] at hI1
      have hI2 := fun W hb => (hI1 W hb).mono fun e w' h => fan_yes h
      have hsz' : (s.size : Int) ≤ 128 := by omega
      clear hI hI1 hr hfb
      go_wp2_with (first
        | (go_at_call 27; refine (hP2 g c _ b1 Y1).mono ?_; rintro r w2 ⟨rfl, b2⟩; have Y2 := Y1.below b2; have B2 := bel_then b1 b2)
        | (go_at_call 28; refine (hS2 g c _ Y2).mono ?_; rintro r w3 ⟨rfl, b3⟩; have Y3 := Y2.below b3; have B3 := bel_then B2 b3)
        | (go_at_call 29; refine (hI2 _ B3).mono ?_; rintro r w4 ⟨h, ch, rfl, Y4, b4⟩; have Y4b := Y3.below b4; have B4 := bel_then B3 b4)
        | (go_at_call 30; refine (hF h g ch c _ Y4 Y4b).mono ?_; rintro r w5 ⟨rfl, b5⟩; have B5 := bel_then B4 b5))
      go_ret
      exact ⟨rfl, B5⟩
end Go.Proofs.YtlfggmllpbghaaaDoor
