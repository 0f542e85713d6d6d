/-
  FnPtrPut, its walk: pointers are read back.
-/
import Derived.Test.YtlfggmllpbghaaaDoorGetPut
import Derived.Test.YtlfggmllpbghaaaDoorApart
namespace Go.Proofs.YtlfggmllpbghaaaDoor
open Go.RowKit

theorem same_self (a b c d e : Int) : same a b c d e a b c d e = true := by simp [same]

set_option maxRecDepth 100000 in
set_option maxHeartbeats 2000000 in
theorem walk_pput (A : Option Addr) (n cap : Nat) (w : World) (hn : n ≤ cap) (hA : BytesAt w A n) (hE : Env w) :
    Calls Tryd.prog 5 #[.slice A n cap] w fun e w' => e = .returned (.bool true) ∧ Below w.heap.size w w' := by
  by_cases h1 : (1048576 : Int) < (n : Int)
  · go_enter Tryd.func5, Tryd.ntmps5
    go_wp2
    go_ret
    exact ⟨rfl, Below.refl _ _⟩
  · have hD := draw_ptr21 A n cap w hn hA
    have hI := fun (a b c d e : Int) (W : World) (hb : Below w.heap.size w W) => impl_put a b c d e W (hE.1.at hb)
    have hG := fun (s : ByteArray) (hs : s.size ≤ 1048576) (W : World) (hb : Below w.heap.size w W) => impl_pget s W hs (hE.at hb)
    clear hE hA
    go_enter Tryd.func5, Tryd.ntmps5
    go_wp2_with (go_at_call 21; refine hD.mono ?_; rintro r w1 ⟨a, b, c, d, e, rfl, b1⟩; refine Hid.out ?_)
    refine Lib.hid ?_
    clear hD
    have hP := hI a b c d e
    have hS := fun W => spec_put a b c d e W
    have hne := @putT_ne a b c d e
    have hno := @putT_no a b c d e
    have hgp := @get_put a b c d e
    have hB := hG (strOf (putT a b c d e)) (by rw [strOf_size]; have := putT_short a b c d e; omega)
    have hss := same_self a b c d e
    have H0 := HP.new w1 a b c d e 24
    have B0 := bel_then b1 H0.2.2.2.2.2.2
    obtain ⟨x, hx⟩ : ∃ x, x = strOf (putT a b c d e) := ⟨_, rfl⟩
    have hxl : x.toList = putT a b c d e := by rw [hx, ByteArray.toList_eq, strOf_toList]
    rw [← hx] at hP hS hgp hB
    by_cases hk : isOk a b c d e = true
    · have hq : (!x.toList.isEmpty) = true := by
        rw [hxl]
        cases hpp : putT a b c d e with
        | nil => exact absurd hpp (hne hk)
        | cons u v => rfl
      have hq2 : x.toList.isEmpty = false := by simpa using hq
      rw [hgp hk] at hB
      have hB2 : ∀ W, Below w.heap.size w W → Calls Tryd.prog 23 #[.string x] W fun e' w' => e' = .returned (.tuple #[.agg #[.int .i64 a, .int .i64 b, .int .i64 c, .int .i64 d, .int .i64 e], .bool true]) ∧ Below W.heap.size W w' := hB
      clear hx hxl hne hno hgp hB hI hG hk
      go_wp2_with (first | (go_at_call 17; refine (hP _ B0).mono ?_; rintro r w2 ⟨rfl, b2⟩; have H2 := H0.next b2; obtain ⟨y0, y1, y2, y3, y4, yl, yb⟩ := id H2; have B2 := bel_then b1 yb) | (go_at_call 22; refine (hS _).mono ?_; rintro r w3 ⟨rfl, b3⟩; have H3 := H2.next b3; obtain ⟨y0, y1, y2, y3, y4, yl, yb⟩ := id H3; have B3 := bel_then b1 yb) | (go_at_call 23; refine (hB2 _ B3).mono ?_; rintro r w4 ⟨rfl, b4⟩; have H4 := (H3.next b4).more (.cells #[.int .i64 a, .int .i64 b, .int .i64 c, .int .i64 d, .int .i64 e] 24); obtain ⟨y0, y1, y2, y3, y4, yl, yb⟩ := id H4))
      go_ret
      exact ⟨rfl, bel_then b1 yb⟩
    · have hk' : isOk a b c d e = false := by simpa using hk
      have hq : (!x.toList.isEmpty) = false := by rw [hxl, hno hk']; rfl
      have hq2 : x.toList.isEmpty = true := by simpa using hq
      clear hx hxl hne hno hgp hB hI hG hk hk'
      go_wp2_with (first | (go_at_call 17; refine (hP _ B0).mono ?_; rintro r w2 ⟨rfl, b2⟩; have H2 := H0.next b2; obtain ⟨y0, y1, y2, y3, y4, yl, yb⟩ := id H2; have B2 := bel_then b1 yb) | (go_at_call 22; refine (hS _).mono ?_; rintro r w3 ⟨rfl, b3⟩; have H3 := H2.next b3; obtain ⟨y0, y1, y2, y3, y4, yl, yb⟩ := id H3; have B3 := bel_then b1 yb))
      go_ret
      exact ⟨rfl, bel_then b1 yb⟩

end Go.Proofs.YtlfggmllpbghaaaDoor
