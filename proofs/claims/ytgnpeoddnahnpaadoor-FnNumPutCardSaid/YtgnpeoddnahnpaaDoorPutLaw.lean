/-
  FnNumPut, its walk: numbers are read back.
-/
import Derived.Test.YtgnpeoddnahnpaaDoorNumLaw
namespace Go.Proofs.YtgnpeoddnahnpaaDoor
open Go.RowKit

def IntPost (w : World) (e : Ending) (w' : World) : Prop := ∃ x : Int, e = .returned (.int .i64 x) ∧ Below w.heap.size w w'

set_option maxRecDepth 100000 in
set_option maxHeartbeats 1000000 in
theorem draw_numput (A : Option Addr) (n cap : Nat) (w : World) (hn : n ≤ cap) (hA : BytesAt w A n) :
    Calls Tryd.prog 29 #[.slice A n cap] w (IntPost w) := by
  have hO := open_rd A n cap w hn hA
  go_enter Tryd.func29, Tryd.ntmps29
  go_wp2_with (go_at_call 39; refine hO.mono ?_; rintro e w1 ⟨A1, m, c1, B, rfl, hr⟩; refine Hid.out ?_)
  refine Lib.hid ?_
  have hK := pick_rd w w1 B A1 m c1 0 200 hr (by omega) (by omega) (by omega)
  clear hr hO
  go_wp2_with (go_at_call 40; refine hK.mono ?_; rintro e w2 ⟨x, x0, x1, rfl, hr2, _⟩; refine Hid.out ?_)
  refine Lib.hid ?_
  have hK2 := pick_rd w w2 B A1 m c1 (0 + 1) 256 hr2 (by omega) (by omega) (by omega)
  clear hr2 hK
  go_wp2_with (go_at_call 40; refine hK2.mono ?_; rintro e w3 ⟨y, y0, y1, rfl, hr3, _⟩; refine Hid.out ?_)
  refine Lib.hid ?_
  have hK3 := pick_rd w w3 B A1 m c1 (0 + 1 + 1) 256 hr3 (by omega) (by omega) (by omega)
  clear hr3 hK2
  go_wp2_with (go_at_call 40; refine hK3.mono ?_; rintro e w4 ⟨z, z0, z1, rfl, hr4, _⟩; refine Hid.out ?_)
  refine Lib.hid ?_
  have hb0 : 0 ≤ y * z := Int.mul_nonneg y0 z0
  have hb1 : y * z ≤ 256 * 256 := Int.mul_le_mul (by omega) (by omega) (by omega) (by omega)
  have hw := IntWalk.i64_in (y * z) (by omega)
  have hw2 := IntWalk.i64_in (y * z * 977) (by omega)
  have hK4 := fun (o : Obj) => pick_rd w (w4.alloc o) B A1 m c1 (0 + 1 + 1 + 1) 6 (hr4.alloc o) (by omega) (by omega) (by omega)
  clear hK3
  go_wp2_with (go_at_call 40; refine (hK4 _).mono ?_; rintro e w5 ⟨u, u0, u1, rfl, hr5, g5⟩; refine Hid.out ?_)
  refine Lib.hid ?_
  have hne : some w4.heap.size ≠ some B := by
    intro e
    have := hr4.lt
    cases e
    omega
  obtain ⟨j, rfl⟩ : ∃ j : Nat, u = (j : Int) := ⟨u.toNat, by omega⟩
  have hcell : ∃ c : Int, w5.cell? ⟨w4.heap.size, j, none⟩ = some (.int .i64 c) := by
    rw [World.cell?_of_block (g5.block w4.heap.size (by simp) hne)]
    rcases (show j = 0 ∨ j = 1 ∨ j = 2 ∨ j = 3 ∨ j = 4 ∨ j = 5 by omega) with rfl | rfl | rfl | rfl | rfl | rfl
    · exact ⟨_, by rw [World.cell?_alloc_mark]; rfl⟩
    · exact ⟨_, by rw [World.cell?_alloc_mark]; rfl⟩
    · exact ⟨_, by rw [World.cell?_alloc_mark]; rfl⟩
    · exact ⟨_, by rw [World.cell?_alloc_mark]; rfl⟩
    · exact ⟨_, by rw [World.cell?_alloc_mark]; rfl⟩
    · exact ⟨_, by rw [World.cell?_alloc_mark]; rfl⟩
  obtain ⟨c, hc⟩ := hcell
  clear hK4 hr4 g5 hne hw hw2 hb0 hb1
  go_wp2_with fail
  go_ret
  exact ⟨c, rfl, hr5.bel⟩

/-- What writing a number answers: the empty text; or a short text that is read as the number. -/
theorem writes_as (a : Int) (W : World) (hT : Tab W) (hE : Errs W) :
    (∀ w, Calls Tryd.prog 22 #[.int .i64 a] w fun e w' => e = .returned (.string (strOf [])) ∧ Below w.heap.size w w') ∧
      (∀ w, Below W.heap.size W w → Calls Tryd.prog 23 #[.int .i64 a] w fun e w' => e = .returned (.string (strOf [])) ∧ Below w.heap.size w w') ∨
    (∃ t : ByteArray, 0 < t.size ∧ t.size ≤ 9 ∧ (∀ w, Calls Tryd.prog 22 #[.int .i64 a] w fun e w' => e = .returned (.string t) ∧ Below w.heap.size w w') ∧
      (∀ w, Below W.heap.size W w → Calls Tryd.prog 23 #[.int .i64 a] w fun e w' => e = .returned (.string t) ∧ Below w.heap.size w w') ∧
      (∀ w, Below W.heap.size W w → Calls Tryd.prog 25 #[.string t] w fun e w' => e = .returned (.tuple #[.int .i64 a, .bool true]) ∧ Below w.heap.size w w')) := by
  have hS := fun w => spec_num a w
  have hI := fun w (hb : Below W.heap.size W w) => impl_num a w (tab_at hT hb).here
  by_cases hl : numText a = []
  · rw [hl] at hS hI
    exact .inl ⟨hS, hI⟩
  · obtain ⟨hg, hv⟩ := num_back hl rfl
    have hs := num_short a
    refine .inr ⟨strOf (numText a), by rw [strOf_size]; exact List.length_pos_iff.2 hl, by rw [strOf_size]; exact hs, hS, hI, fun w hb => ?_⟩
    have h := impl_numget (strOf (numText a)) w (by rw [strOf_size]; omega) (tab_at hT hb) (hE.below hb)
    rw [strOf_toList, numG_yes hg, hv] at h
    exact h

set_option maxRecDepth 100000 in
set_option maxHeartbeats 1000000 in
theorem walk_numput (A : Option Addr) (n cap : Nat) (w : World) (hn : n ≤ cap) (hA : BytesAt w A n) (hT : Tab w) (hE : Errs w) :
    Calls Tryd.prog 11 #[.slice A n cap] w fun e w' => e = .returned (.bool true) ∧ Below w.heap.size w w' := by
  by_cases h1 : 1048576 < n
  · have h1' : (1048576 : Int) < (n : Int) := by omega
    go_enter Tryd.func11, Tryd.ntmps11
    go_wp2
    go_ret
    exact ⟨rfl, Below.refl _ _⟩
  · have h1' : ¬ (1048576 : Int) < (n : Int) := by omega
    have hD := draw_numput A n cap w hn hA
    have hR := fun (a : Int) => writes_as a w hT hE
    clear hT hE
    go_enter Tryd.func11, Tryd.ntmps11
    go_wp2_with (go_at_call 29; refine hD.mono ?_; rintro e w1 ⟨a, rfl, hb⟩; refine Hid.out ?_)
    refine Lib.hid ?_
    have hR' := hR a
    clear hD hR
    rcases hR' with ⟨hS, hI⟩ | ⟨t, ht0, ht9, hS, hI, hP⟩
    · obtain ⟨t, ht⟩ : ∃ t, strOf [] = t := ⟨_, rfl⟩
      have hz : t.toList.isEmpty = true := by rw [← ht, ByteArray.toList_eq, strOf_toList]; rfl
      have hz' : (!t.toList.isEmpty) = false := by rw [hz]; rfl
      rw [ht] at hS hI
      clear ht
      go_wp2_with (go_at_call 23; refine (hI _ hb).mono ?_; rintro e w2 ⟨rfl, hb2⟩; refine Hid.out ?_)
      refine Lib.hid ?_
      go_wp2_with (go_at_call 22; refine (hS _).mono ?_; rintro e w3 ⟨rfl, hb3⟩)
      go_ret
      have c2 := hb.trans (hb2.mono hb.size)
      exact ⟨rfl, c2.trans (hb3.mono c2.size)⟩
    · have hz' := str_full ht0
      have hz : t.toList.isEmpty = false := by simpa using hz'
      have ht9' : (t.size : Int) ≤ 9 := by omega
      go_wp2_with (go_at_call 23; refine (hI _ hb).mono ?_; rintro e w2 ⟨rfl, hb2⟩; refine Hid.out ?_)
      refine Lib.hid ?_
      have c2 := hb.trans (hb2.mono hb.size)
      go_wp2_with (go_at_call 22; refine (hS _).mono ?_; rintro e w3 ⟨rfl, hb3⟩; refine Hid.out ?_)
      refine Lib.hid ?_
      have c3 := c2.trans (hb3.mono c2.size)
      go_wp2_with (go_at_call 25; refine (hP _ c3).mono ?_; rintro e w4 ⟨rfl, hb4⟩)
      go_ret
      exact ⟨rfl, c3.trans (hb4.mono c3.size)⟩

end Go.Proofs.YtgnpeoddnahnpaaDoor
