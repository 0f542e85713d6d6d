/-
  FanPut, both ways, at lists of pointers; and the law's walk: both answer the same text, and the list is kept.
-/
import Derived.Test.YtlfggmllpbghaaaDoorPtrsTo
namespace Go.Proofs.YtlfggmllpbghaaaDoor
open Go.RowKit

theorem m_put {a b c d e : Int} (h : isOk a b c d e = true) (w : World) (hT : Tab w) : Calls Tryd.prog 45 #[.agg #[.int .i64 a, .int .i64 b, .int .i64 c, .int .i64 d, .int .i64 e]] w fun r w' => r = .returned (.string (strOf (putT a b c d e))) ∧ Below w.heap.size w w' := by
  by_cases hh : isHole a b c d e = true
  · have hp : putT a b c d e = [45] := by unfold putT; rw [if_pos h, if_pos hh]
    have hM := fun w => m_hole a b c d e w
    rw [hh] at hM
    rw [hp]
    clear hh hp h hT
    go_enter Tryd.func45, Tryd.ntmps45
    go_wp2_with (go_at_call 46; refine (hM _).mono ?_; rintro r w' ⟨rfl, rfl⟩)
    go_ret
    exact ⟨rfl, (by repeat' (first | exact Below.refl _ _ | refine bel_new ?_ _ | refine Below.drew ?_))⟩
  · have hp : putT a b c d e = joinB (numText a) (numText b) (numText c) (numText d) (numText e) := by unfold putT; rw [if_pos h, if_neg hh]
    have hi : inAll a b c d e := by unfold isOk at h; simpa [hh] using h
    rw [hp]
    exact m_text a b c d e w hi (by simpa using hh) hT

theorem fan_four (a0 b0 c0 d0 e0 a1 b1 c1 d1 e1 a2 b2 c2 d2 e2 a3 b3 c3 d3 e3 : Int) (b cap : Nat) (w : World) (Y : w.rangeAt b 0 [.int .i64 a0, .int .i64 b0, .int .i64 c0, .int .i64 d0, .int .i64 e0, .int .i64 a1, .int .i64 b1, .int .i64 c1, .int .i64 d1, .int .i64 e1, .int .i64 a2, .int .i64 b2, .int .i64 c2, .int .i64 d2, .int .i64 e2, .int .i64 a3, .int .i64 b3, .int .i64 c3, .int .i64 d3, .int .i64 e3]) (hT : Tab w) :
    Calls Tryd.prog 27 #[.slice (some ⟨b, 0, none⟩) 4 cap] w fun r w' => r = .returned (.tuple #[.string (fanG [(⟨a0, b0, c0, d0, e0⟩ : P5), (⟨a1, b1, c1, d1, e1⟩ : P5), (⟨a2, b2, c2, d2, e2⟩ : P5), (⟨a3, b3, c3, d3, e3⟩ : P5)]).1, .bool (fanG [(⟨a0, b0, c0, d0, e0⟩ : P5), (⟨a1, b1, c1, d1, e1⟩ : P5), (⟨a2, b2, c2, d2, e2⟩ : P5), (⟨a3, b3, c3, d3, e3⟩ : P5)]).2]) ∧ Below w.heap.size w w' := by
  have hO := fun w => okf_any a0 b0 c0 d0 e0 a1 b1 c1 d1 e1 a2 b2 c2 d2 e2 a3 b3 c3 d3 e3 (isOk a0 b0 c0 d0 e0) (isOk a1 b1 c1 d1 e1) (isOk a2 b2 c2 d2 e2) (isOk a3 b3 c3 d3 e3) (isHole a0 b0 c0 d0 e0 && isHole a1 b1 c1 d1 e1 && isHole a2 b2 c2 d2 e2 && isHole a3 b3 c3 d3 e3) w
    (fun w => (m_ok a0 b0 c0 d0 e0 w).mono fun r w' ⟨h1, h2⟩ => ⟨h1, h2 ▸ bel_new (bel_new (Below.refl _ _) _) _⟩)
    (fun w => (m_ok a1 b1 c1 d1 e1 w).mono fun r w' ⟨h1, h2⟩ => ⟨h1, h2 ▸ bel_new (bel_new (Below.refl _ _) _) _⟩)
    (fun w => (m_ok a2 b2 c2 d2 e2 w).mono fun r w' ⟨h1, h2⟩ => ⟨h1, h2 ▸ bel_new (bel_new (Below.refl _ _) _) _⟩)
    (fun w => (m_ok a3 b3 c3 d3 e3 w).mono fun r w' ⟨h1, h2⟩ => ⟨h1, h2 ▸ bel_new (bel_new (Below.refl _ _) _) _⟩)
    (fun w => m_empty a0 b0 c0 d0 e0 a1 b1 c1 d1 e1 a2 b2 c2 d2 e2 a3 b3 c3 d3 e3 w)
  obtain ⟨o, ho⟩ : ∃ o, o = (isOk a0 b0 c0 d0 e0 && isOk a1 b1 c1 d1 e1 && isOk a2 b2 c2 d2 e2 && isOk a3 b3 c3 d3 e3 && !(isHole a0 b0 c0 d0 e0 && isHole a1 b1 c1 d1 e1 && isHole a2 b2 c2 d2 e2 && isHole a3 b3 c3 d3 e3)) := ⟨_, rfl⟩
  rw [← ho] at hO
  have hiff : o = true ↔ (∀ p ∈ [(⟨a0, b0, c0, d0, e0⟩ : P5), (⟨a1, b1, c1, d1, e1⟩ : P5), (⟨a2, b2, c2, d2, e2⟩ : P5), (⟨a3, b3, c3, d3, e3⟩ : P5)], P5.ok p = true) ∧ someP [(⟨a0, b0, c0, d0, e0⟩ : P5), (⟨a1, b1, c1, d1, e1⟩ : P5), (⟨a2, b2, c2, d2, e2⟩ : P5), (⟨a3, b3, c3, d3, e3⟩ : P5)] = true := by
    rw [ho]
    simp [P5.ok, someP, P5.hole]
    cases isHole a0 b0 c0 d0 e0 <;> cases isHole a1 b1 c1 d1 e1 <;> cases isHole a2 b2 c2 d2 e2 <;> cases isHole a3 b3 c3 d3 e3 <;> simp [and_assoc]
  cases o with
  | true =>
    obtain ⟨h1, h2⟩ := hiff.1 rfl
    have hk0 : isOk a0 b0 c0 d0 e0 = true := h1 (⟨a0, b0, c0, d0, e0⟩ : P5) (by simp)
    have hk1 : isOk a1 b1 c1 d1 e1 = true := h1 (⟨a1, b1, c1, d1, e1⟩ : P5) (by simp)
    have hk2 : isOk a2 b2 c2 d2 e2 = true := h1 (⟨a2, b2, c2, d2, e2⟩ : P5) (by simp)
    have hk3 : isOk a3 b3 c3 d3 e3 = true := h1 (⟨a3, b3, c3, d3, e3⟩ : P5) (by simp)
    rw [fanG_yes rfl h1 h2]
    have sz : ∀ a b c d e : Int, (strOf (putT a b c d e)).size ≤ 49 := fun a b c d e => by rw [strOf_size]; exact putT_short a b c d e
    have hX := fun W (hW : Below w.heap.size w W) => textf_any a0 b0 c0 d0 e0 a1 b1 c1 d1 e1 a2 b2 c2 d2 e2 a3 b3 c3 d3 e3 (strOf (putT a0 b0 c0 d0 e0)) (strOf (putT a1 b1 c1 d1 e1)) (strOf (putT a2 b2 c2 d2 e2)) (strOf (putT a3 b3 c3 d3 e3)) W
      (fun V hV => m_put hk0 V ((hT.at hW).at hV)) (fun V hV => m_put hk1 V ((hT.at hW).at hV)) (fun V hV => m_put hk2 V ((hT.at hW).at hV)) (fun V hV => m_put hk3 V ((hT.at hW).at hV)) (sz a0 b0 c0 d0 e0) (sz a1 b1 c1 d1 e1) (sz a2 b2 c2 d2 e2) (sz a3 b3 c3 d3 e3)
    have hj : (⟨(Lib.join ([strOf (putT a0 b0 c0 d0 e0), strOf (putT a1 b1 c1 d1 e1), strOf (putT a2 b2 c2 d2 e2), strOf (putT a3 b3 c3 d3 e3)].map (·.data.toList)) [44]).toArray⟩ : ByteArray) = strOf (textOf [(⟨a0, b0, c0, d0, e0⟩ : P5), (⟨a1, b1, c1, d1, e1⟩ : P5), (⟨a2, b2, c2, d2, e2⟩ : P5), (⟨a3, b3, c3, d3, e3⟩ : P5)]) := by
      rw [show [strOf (putT a0 b0 c0 d0 e0), strOf (putT a1 b1 c1 d1 e1), strOf (putT a2 b2 c2 d2 e2), strOf (putT a3 b3 c3 d3 e3)].map (·.data.toList) = [putT a0 b0 c0 d0 e0, putT a1 b1 c1 d1 e1, putT a2 b2 c2 d2 e2, putT a3 b3 c3 d3 e3] by simp [strOf_toList], join_is]
      rfl
    rw [hj] at hX
    exact fput_any a0 b0 c0 d0 e0 a1 b1 c1 d1 e1 a2 b2 c2 d2 e2 a3 b3 c3 d3 e3 true (strOf (textOf [(⟨a0, b0, c0, d0, e0⟩ : P5), (⟨a1, b1, c1, d1, e1⟩ : P5), (⟨a2, b2, c2, d2, e2⟩ : P5), (⟨a3, b3, c3, d3, e3⟩ : P5)])) b cap w Y hO (fun _ => hX) (fun h => absurd h (by decide))
  | false =>
    rw [fanG_no (fun h => absurd (hiff.2 h.2) (by decide))]
    exact fput_any a0 b0 c0 d0 e0 a1 b1 c1 d1 e1 a2 b2 c2 d2 e2 a3 b3 c3 d3 e3 false ⟨#[]⟩ b cap w Y hO (fun h => absurd h (by decide)) (fun _ => rfl)

theorem impl_fput (ps : List P5) (b cap : Nat) (w : World) (Y : PtrsAt w b ps) (hT : Tab w) :
    Calls Tryd.prog 27 #[.slice (some ⟨b, 0, none⟩) ps.length cap] w fun r w' => r = .returned (.tuple #[.string (fanG ps).1, .bool (fanG ps).2]) ∧ Below w.heap.size w w' := by
  by_cases h4 : ps.length = 4
  · match ps, h4 with
    | [⟨a0, b0, c0, d0, e0⟩, ⟨a1, b1, c1, d1, e1⟩, ⟨a2, b2, c2, d2, e2⟩, ⟨a3, b3, c3, d3, e3⟩], _ => exact fan_four a0 b0 c0 d0 e0 a1 b1 c1 d1 e1 a2 b2 c2 d2 e2 a3 b3 c3 d3 e3 b cap w Y.2 hT
  · rw [fanG_no (fun h => h4 h.1)]
    exact fput_few _ ps.length cap w h4

set_option maxRecDepth 100000 in
set_option maxHeartbeats 2000000 in
theorem walk_efput (A : Option Addr) (cap : Nat) (ps : List P5) (w : World) (hm : ps.length ≤ maxLen) (hA : PArg w A ps) (hT : Tab w) :
    Calls Tryd.prog 12 #[.slice A ps.length cap] w fun r w' => r = .returned (.bool true) ∧ Below w.heap.size w w' := by
  have hZ := sz_ptrs A cap ps.length w hm
  by_cases hbig : (1048576 : Int) < (ps.length : Int)
  · rw [if_pos hbig] at hZ
    go_enter Tryd.func12, Tryd.ntmps12
    go_wp2_with (go_at_call 35; refine hZ.mono ?_; rintro r w' ⟨rfl, rfl⟩)
    go_ret
    exact ⟨rfl, Below.refl _ _⟩
  · rw [if_neg hbig] at hZ
    have hneg : ¬ (1048576 : Int) - (ps.length : Int) < 0 := by omega
    have hC := fun W (hb : Below w.heap.size w W) => to_ptrs A cap ps W (by omega) (hA.below hb)
    have hS := fun g c W (hY : PtrsAt W g ps) => spec_fput ps g c W hY
    have hI := fun g c W (hb : Below w.heap.size w W) (hY : PtrsAt W g ps) => impl_fput ps g c W hY (hT.at hb)
    have hE := fun g h cg ch W (hG : PtrsAt W g ps) (hH : PtrsAt W h ps) => eq_ptrs g h cg ch ps W (by omega) hG hH
    obtain ⟨⟨t, o⟩, hq⟩ : ∃ q, q = fanG ps := ⟨_, rfl⟩
    rw [← hq] at hS hI
    have htt : (!t.toList == t.toList) = false := by simp
    have hoo : (o != o) = false := by cases o <;> rfl
    clear hq hT hA hm
    go_enter Tryd.func12, Tryd.ntmps12
    go_wp2_with (go_at_call 35; refine hZ.mono ?_; rintro r w' ⟨rfl, rfl⟩; refine Hid.out ?_)
    refine Lib.hid ?_
    have hC0 := hC w (Below.refl _ _)
    clear hZ
    go_wp2_with (go_at_call 36; refine hC0.mono ?_; rintro r w1 ⟨g1, rfl, o1, b1⟩; refine Hid.out ?_)
    refine Lib.hid ?_
    have Y1 := PtrsAt.of_own o1
    have hS1 := hS g1 ps.length w1 Y1
    clear hC0 o1
    go_wp2_with (go_at_call 28; refine hS1.mono ?_; rintro r w2 ⟨rfl, b2⟩; refine Hid.out ?_)
    refine Lib.hid ?_
    have B2 := bel_then b1 b2
    have hC2 := hC w2 B2
    clear hS1 Y1 hS
    go_wp2_with (go_at_call 36; refine hC2.mono ?_; rintro r w3 ⟨g3, rfl, o3, b3⟩; refine Hid.out ?_)
    refine Lib.hid ?_
    have Y3 := PtrsAt.of_own o3
    have B3 := bel_then B2 b3
    have hI3 := hI g3 ps.length w3 B3 Y3
    clear hC2 o3 hI
    go_wp2_with (go_at_call 27; refine hI3.mono ?_; rintro r w4 ⟨rfl, b4⟩; refine Hid.out ?_)
    refine Lib.hid ?_
    have Y4 := Y3.below b4
    have B4 := bel_then B3 b4
    have hC4 := hC w4 B4
    clear hI3 Y3 hC
    go_wp2_with (go_at_call 36; refine hC4.mono ?_; rintro r w5 ⟨g5, rfl, o5, b5⟩; refine Hid.out ?_)
    refine Lib.hid ?_
    have Y5 := PtrsAt.of_own o5
    have B5 := bel_then B4 b5
    have hE5 := hE g3 g5 ps.length ps.length w5 (Y4.below b5) Y5
    clear hC4 Y4 o5 hE
    go_wp2_with (go_at_call 37; refine hE5.mono ?_; rintro r w6 ⟨rfl, b6⟩)
    go_ret
    exact ⟨rfl, bel_then B5 b6⟩
end Go.Proofs.YtlfggmllpbghaaaDoor
