/-
  FnPtrOf, its walk: a pointer to a block is valid, fits the block and holds what it was made of.
-/
import Derived.Test.YtlfggmllpbghaaaDrawOf
import Derived.Test.YtlfggmllpbghaaaFitsM
namespace Go.Proofs.Ytlfggmllpbghaaa
open Go.RowKit
set_option linter.unusedVariables false

theorem HP.more {w W : World} {a b c d e : Int} (h : HP w a b c d e W) (o : Obj) : HP w a b c d e (W.alloc o) := h.next (bel_new (Below.refl _ _) o)

set_option maxRecDepth 100000 in
set_option maxHeartbeats 2000000 in
theorem walk_pof (A : Option Addr) (n cap : Nat) (w : World) (hn : n ≤ cap) (hA : BytesAt w A n) :
    Calls Try.prog 3 #[.slice A n cap] w fun e w' => e = .returned (.bool true) ∧ Below w.heap.size w w' := by
  by_cases h1 : (1048576 : Int) < (n : Int)
  · go_enter Try.func3, Try.ntmps3
    go_wp2
    go_ret
    exact ⟨rfl, Below.refl _ _⟩
  · have hD := draw_of A n cap w hn hA
    clear hA
    go_enter Try.func3, Try.ntmps3
    go_wp2_with (go_at_call 9; refine hD.mono ?_; rintro r w1 ⟨a, b, l, s, rfl, hs, b1⟩; refine Hid.out ?_)
    refine Lib.hid ?_
    clear hD
    have hI := fun W => impl_of a b l s W
    have hS := fun W => spec_of a b l s W
    by_cases hd : (1 ≤ (s.size : Int) ∧ (s.size : Int) ≤ 128) ∧ isOk a b s.size (sumT s.data.toList) l = true
    · have hne : isHole a b s.size (sumT s.data.toList) l = false := by
        unfold isHole same
        have : ((s.size : Int) == 0) = false := beq_eq_false_iff_ne.2 (by omega)
        rw [this]
        simp
      have hF := fun W => impl_fits a b s.size (sumT s.data.toList) l s W (by unfold maxLen; omega)
      have hK := fun W => impl_ok a b s.size (sumT s.data.toList) l W
      have hH := fun W => impl_hole a b s.size (sumT s.data.toList) l W
      have hfb : fitsB a b s.size (sumT s.data.toList) l s = true := by
        unfold fitsB
        rw [hd.2, hne]
        simp
      rw [hfb] at hF
      rw [hd.2] at hK
      rw [hne] at hH
      have hI2 := fun W => (hI W).mono (fun r w' ⟨hb, h⟩ => (⟨h.elim (fun h => h.2) (fun h => absurd hd h.1), hb⟩ : _ ∧ _))
      have hS2 := fun W => (hS W).mono (fun r w' ⟨hb, h⟩ => (⟨h.elim (fun h => h.2) (fun h => absurd hd h.1), hb⟩ : _ ∧ _))
      clear hI hS hfb hne
      obtain ⟨m, hm⟩ : ∃ m, m = (s.size : Int) := ⟨_, rfl⟩
      obtain ⟨z, hz⟩ : ∃ z, z = sumT s.data.toList := ⟨_, rfl⟩
      rw [← hm, ← hz] at hF hK hH hI2 hS2
      clear hm hz hd h1
      have hK2 : ∀ W, Calls Try.prog 12 #[.agg #[.int .i64 a, .int .i64 b, .int .i64 m, .int .i64 z, .int .i64 l]] W fun r w' => r = .returned (.bool true) ∧ Below W.heap.size W w' := fun W => (hK W).mono fun r w' ⟨h, hw⟩ => ⟨h, by rw [hw]; repeat' (first | exact Below.refl _ _ | refine bel_new ?_ _)⟩
      have hH2 : ∀ W, Calls Try.prog 14 #[.agg #[.int .i64 a, .int .i64 b, .int .i64 m, .int .i64 z, .int .i64 l]] W fun r w' => r = .returned (.bool false) ∧ Below W.heap.size W w' := fun W => (hH W).mono fun r w' ⟨h, hw⟩ => ⟨h, by rw [hw]; repeat' (first | exact Below.refl _ _ | refine bel_new ?_ _)⟩
      clear hK hH
      go_wp2_with (first
        | (go_at_call 10; refine (hI2 _).mono ?_; rintro r w2 ⟨rfl, b2⟩; have H0 := HP.new w2 a b m z l 26; have B2 := bel_then b1 b2)
        | (go_at_call 11; refine (hS2 _).mono ?_; rintro r w3 ⟨rfl, b3⟩; have H3 := (H0.next b3).more (.cells #[.int .i64 a, .int .i64 b, .int .i64 m, .int .i64 z, .int .i64 l] 26); obtain ⟨y0, y1, y2, y3, y4, yl, yb⟩ := id H3)
        | (go_at_call 12; refine (hK2 _).mono ?_; rintro r w4 ⟨rfl, b4⟩; have H4 := H3.next b4; obtain ⟨y0, y1, y2, y3, y4, yl, yb⟩ := id H4)
        | (go_at_call 13; refine (hF _).mono ?_; rintro r w5 ⟨rfl, b5⟩; have H5 := H4.next b5; obtain ⟨y0, y1, y2, y3, y4, yl, yb⟩ := id H5)
        | (go_at_call 14; refine (hH2 _).mono ?_; rintro r w6 ⟨rfl, b6⟩; have H6 := H5.next b6; obtain ⟨y0, y1, y2, y3, y4, yl, yb⟩ := id H6))
      go_ret
      exact ⟨rfl, bel_then B2 yb⟩
    · have hI2 := fun W => (hI W).mono (fun r w' ⟨hb, h⟩ => (⟨h.elim (fun h => absurd h.1 hd) (fun h => h.2), hb⟩ : _ ∧ _))
      have hS2 := fun W => (hS W).mono (fun r w' ⟨hb, h⟩ => (⟨h.elim (fun h => absurd h.1 hd) (fun h => h.2), hb⟩ : _ ∧ _))
      clear hI hS hd h1
      go_wp2_with (first
        | (go_at_call 10; refine (hI2 _).mono ?_; rintro r w2 ⟨rfl, b2⟩; have H0 := HP.new w2 0 0 0 0 0 26; have B2 := bel_then b1 b2)
        | (go_at_call 11; refine (hS2 _).mono ?_; rintro r w3 ⟨rfl, b3⟩; have H3 := (H0.next b3).more (.cells #[.int .i64 0, .int .i64 0, .int .i64 0, .int .i64 0, .int .i64 0] 26); obtain ⟨y0, y1, y2, y3, y4, yl, yb⟩ := id H3))
      go_ret
      exact ⟨rfl, bel_then B2 yb⟩

end Go.Proofs.Ytlfggmllpbghaaa
