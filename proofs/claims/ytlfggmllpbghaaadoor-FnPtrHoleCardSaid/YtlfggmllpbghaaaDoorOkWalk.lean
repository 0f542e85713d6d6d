/-
  FnPtrOk and FnPtrHole, their walks: just valid pointers have a text; a hole is the zero pointer, and valid.
-/
import Derived.Test.YtlfggmllpbghaaaDoorApart
namespace Go.Proofs.YtlfggmllpbghaaaDoor
open Go.RowKit

set_option maxRecDepth 100000 in
set_option maxHeartbeats 2000000 in
theorem walk_pok (A : Option Addr) (n cap : Nat) (w : World) (hn : n ≤ cap) (hA : BytesAt w A n) (hT : Tab w) :
    Calls Tryd.prog 3 #[.slice A n cap] w fun e w' => e = .returned (.bool true) ∧ Below w.heap.size w w' := by
  by_cases h1 : (1048576 : Int) < (n : Int)
  · go_enter Tryd.func3, Tryd.ntmps3
    go_wp2
    go_ret
    exact ⟨rfl, Below.refl _ _⟩
  · have hD := draw_ptr14 A n cap w hn hA
    have hI := fun (a b c d e : Int) (W : World) (hb : Below w.heap.size w W) => impl_put a b c d e W (hT.at hb)
    clear hT hA
    go_enter Tryd.func3, Tryd.ntmps3
    go_wp2_with (go_at_call 14; refine hD.mono ?_; rintro r w1 ⟨a, b, c, d, e, rfl, b1⟩; refine Hid.out ?_)
    refine Lib.hid ?_
    clear hD
    have hO := fun W => impl_ok a b c d e W
    have hS := fun W => spec_ok a b c d e W
    have hP := hI a b c d e
    have hne := @putT_ne a b c d e
    have hno := @putT_no a b c d e
    obtain ⟨x, hx⟩ : ∃ x, x = strOf (putT a b c d e) := ⟨_, rfl⟩
    rw [← hx] at hP
    obtain ⟨z, hz⟩ : ∃ z, z = isOk a b c d e := ⟨_, rfl⟩
    rw [← hz] at hO hS hne hno
    have hxl : x.toList = putT a b c d e := by rw [hx, ByteArray.toList_eq, strOf_toList]
    cases z with
    | true =>
      have hq : (!x.toList.isEmpty) = true := by
        rw [hxl]
        cases hpp : putT a b c d e with
        | nil => exact absurd hpp (hne rfl)
        | cons u v => rfl
      clear hx hz hxl hne hno hI
      go_wp2_with (first | (go_at_call 15; refine (hO _).mono ?_; rintro r w' ⟨rfl, rfl⟩) | (go_at_call 16; refine (hS _).mono ?_; rintro r w' ⟨rfl, rfl⟩) | (go_at_call 17; refine (hP _ (by repeat' (first | exact b1 | refine bel_new ?_ _ | refine Below.drew ?_))).mono ?_; rintro r w2 ⟨rfl, b2⟩))
      go_ret
      exact ⟨rfl, bel_then (by repeat' (first | exact b1 | refine bel_new ?_ _ | refine Below.drew ?_)) b2⟩
    | false =>
      have hq : (!x.toList.isEmpty) = false := by rw [hxl, hno rfl]; rfl
      clear hx hz hxl hne hno hI
      go_wp2_with (first | (go_at_call 15; refine (hO _).mono ?_; rintro r w' ⟨rfl, rfl⟩) | (go_at_call 16; refine (hS _).mono ?_; rintro r w' ⟨rfl, rfl⟩) | (go_at_call 17; refine (hP _ (by repeat' (first | exact b1 | refine bel_new ?_ _ | refine Below.drew ?_))).mono ?_; rintro r w2 ⟨rfl, b2⟩))
      go_ret
      exact ⟨rfl, bel_then (by repeat' (first | exact b1 | refine bel_new ?_ _ | refine Below.drew ?_)) b2⟩

set_option maxRecDepth 100000 in
set_option maxHeartbeats 2000000 in
theorem walk_phole (A : Option Addr) (n cap : Nat) (w : World) (hn : n ≤ cap) (hA : BytesAt w A n) (hT : Tab w) :
    Calls Tryd.prog 4 #[.slice A n cap] w fun e w' => e = .returned (.bool true) ∧ Below w.heap.size w w' := by
  by_cases h1 : (1048576 : Int) < (n : Int)
  · go_enter Tryd.func4, Tryd.ntmps4
    go_wp2
    go_ret
    exact ⟨rfl, Below.refl _ _⟩
  · have hD := draw_ptr18 A n cap w hn hA
    have hI := fun (a b c d e : Int) (W : World) (hb : Below w.heap.size w W) => impl_put a b c d e W (hT.at hb)
    clear hT hA
    go_enter Tryd.func4, Tryd.ntmps4
    go_wp2_with (go_at_call 18; refine hD.mono ?_; rintro r w1 ⟨a, b, c, d, e, rfl, b1⟩; refine Hid.out ?_)
    refine Lib.hid ?_
    clear hD
    have hO := fun W => impl_ok a b c d e W
    have hM := fun W => impl_hole a b c d e W
    have hS := fun W => spec_hole a b c d e W
    have hP := hI a b c d e
    clear hI
    by_cases hh : isHole a b c d e = true
    · obtain ⟨rfl, rfl, rfl, rfl, rfl⟩ := hole_zero hh
      have hk : isOk 0 0 0 0 0 = true := by unfold isOk; rw [hh]; rfl
      have hp : putT 0 0 0 0 0 = [45] := by unfold putT; rw [if_pos hk, if_pos hh]
      rw [hp] at hP
      rw [hk] at hO
      rw [hh] at hM hS
      have hP1 : ∀ W, Below w.heap.size w W → Calls Tryd.prog 17 #[.agg #[.int .i64 0, .int .i64 0, .int .i64 0, .int .i64 0, .int .i64 0]] W fun r w' => r = .returned (.string ⟨#[45]⟩) ∧ Below W.heap.size W w' := hP
      clear hP hp hk hh
      go_wp2_with (first | (go_at_call 15; refine (hO _).mono ?_; rintro r w' ⟨rfl, rfl⟩) | (go_at_call 19; refine (hM _).mono ?_; rintro r w' ⟨rfl, rfl⟩) | (go_at_call 20; refine (hS _).mono ?_; rintro r w' ⟨rfl, rfl⟩) | (go_at_call 17; refine (hP1 _ (by repeat' (first | exact b1 | refine bel_new ?_ _ | refine Below.drew ?_))).mono ?_; rintro r w2 ⟨rfl, b2⟩))
      go_ret
      exact ⟨rfl, bel_then (by repeat' (first | exact b1 | refine bel_new ?_ _ | refine Below.drew ?_)) b2⟩
    · have hh' : isHole a b c d e = false := by simpa using hh
      have hs' : ¬ (a = 0 ∧ b = 0 ∧ c = 0 ∧ d = 0 ∧ e = 0) := fun ⟨h1, h2, h3, h4, h5⟩ => hh (by unfold isHole same; simp [h1, h2, h3, h4, h5])
      have HS := Lib.hid hs'
      rw [hh'] at hM hS
      clear hP hO hh hh' hs'
      go_wp2_with (first | (go_at_call 19; refine (hM _).mono ?_; rintro r w' ⟨rfl, rfl⟩) | (go_at_call 20; refine (hS _).mono ?_; rintro r w' ⟨rfl, rfl⟩))
      all_goals first
        | exact absurd ⟨by assumption, by assumption, by assumption, by assumption, by assumption⟩ HS.out
        | (go_ret; exact ⟨rfl, (by repeat' (first | exact b1 | refine bel_new ?_ _ | refine Below.drew ?_))⟩)

end Go.Proofs.YtlfggmllpbghaaaDoor
