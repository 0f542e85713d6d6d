/-
  FnExactFieldsGet, its walk: both ways of reading a record agree, and what the program hands back is its own.
-/
import Derived.Test.YtgnpeoddnahnpaaDoorGetS2
import Derived.Test.YtgnpeoddnahnpaaDoorMark
namespace Go.Proofs.YtgnpeoddnahnpaaDoor
open Go.RowKit

theorem mark_zero (A : Option Addr) (c : Nat) (w : World) : Calls Tryd.prog 20 #[.slice A 0 c, .int .i64 1] w fun e w' => e = .returned (.int .i64 1) ∧ w = w' := by
  go_enter Tryd.func20, Tryd.ntmps20
  go_wp2
  refine wp_loop_rounds 1 ?_
  rw [rounds_succ]
  go_wp2
  go_ret
  exact ⟨rfl, rfl⟩
theorem held_zero (A : Option Addr) (c : Nat) (w : World) : Calls Tryd.prog 21 #[.slice A 0 c, .int .i64 1] w fun e w' => e = .returned (.int .i64 1) ∧ w = w' := by
  go_enter Tryd.func21, Tryd.ntmps21
  go_wp2
  refine wp_loop_rounds 1 ?_
  rw [rounds_succ]
  go_wp2
  go_ret
  exact ⟨rfl, rfl⟩
theorem eq_below (A B : Option Addr) (ca cb : Nat) (ss : List ByteArray) (w : World) (hn : ss.length ≤ 1048576) (hA : StrsAt w A ss) (hB : StrsAt w B ss) :
    Calls Tryd.prog 17 #[.slice A ss.length ca, .slice B ss.length cb] w fun e w' => e = .returned (.bool true) ∧ Below w.heap.size w w' :=
  (eq_same A B ca cb ss w hn hA hB).mono fun e w' ⟨he, q, hw⟩ => ⟨he, by rw [hw]; exact below_drewN (Below.refl _ _) q⟩

def YesPost (ss : List ByteArray) (w : World) (e : Ending) (w' : World) : Prop :=
  ∃ g c : Nat, e = .returned (.tuple #[.slice (some ⟨g, 0, none⟩) ss.length c, .bool true]) ∧ w'.ownsRow w.heap.size 9 1 (.slice (some ⟨g, 0, none⟩) ss.length c) ss.length (strCellsOf ss) ∧ Below w.heap.size w w'
def NoPost (w : World) (e : Ending) (w' : World) : Prop :=
  ∃ (A : Option Addr) (c : Nat), e = .returned (.tuple #[.slice A 0 c, .bool false]) ∧ Below w.heap.size w w'
theorem GetPost.yes {s : ByteArray} {w w' : World} {e : Ending} {ss : List ByteArray} (h : GetPost s w e w') (hr : isRec s.data.toList ss) : YesPost ss w e w' := by
  obtain ⟨hb, ⟨tt, g, c, ht, he, ho⟩ | ⟨hno, _⟩⟩ := h
  · obtain rfl : tt = ss := recL_inj (ht.2.2.symm.trans hr.2.2)
    exact ⟨g, c, he, ho, hb⟩
  · exact absurd hr (hno ss)
theorem GetPost.no {s : ByteArray} {w w' : World} {e : Ending} (h : GetPost s w e w') (hr : ∀ ss, ¬ isRec s.data.toList ss) : NoPost w e w' := by
  obtain ⟨hb, ⟨tt, g, c, ht, he, ho⟩ | ⟨hno, A, c, he⟩⟩ := h
  · exact absurd ht (hr tt)
  · exact ⟨A, c, he, hb⟩

set_option maxRecDepth 100000 in
set_option maxHeartbeats 1000000 in
theorem walk_eget (s : ByteArray) (w : World) (hT : Tab w) (hE : Errs w) (hM : MaxL w) :
    Calls Tryd.prog 4 #[.string s] w fun e w' => e = .returned (.bool true) ∧ Below w.heap.size w w' := by
  by_cases hbig : (1048576 : Int) < (s.size : Int)
  · go_enter Tryd.func4, Tryd.ntmps4
    go_wp2
    go_ret
    exact ⟨rfl, Below.refl _ _⟩
  · have hI0 := fun (W : World) (hb : Below w.heap.size w W) => impl_fget s W (by omega) (tab_at hT hb) (hE.below hb) (hM.below hb)
    have hS0 := spec_fget s w (by omega)
    by_cases hx : ∃ ss, isRec s.data.toList ss
    · obtain ⟨ss, hr⟩ := hx
      have hI := fun (W : World) (hb : Below w.heap.size w W) => (hI0 W hb).mono fun e w' h => h.yes hr
      have hS := hS0.mono fun e w' h => h.yes hr
      have h60 := hr.1
      clear hI0 hS0 hT hE hM hr
      go_enter Tryd.func4, Tryd.ntmps4
      go_wp2_with (go_at_call 18; refine hS.mono ?_; rintro e w1 ⟨g1, c1, rfl, o1, b1⟩; refine Hid.out ?_)
      refine Lib.hid ?_
      have l1 := (o1.lt g1 rfl).2
      have hI1 := hI w1 b1
      go_wp2_with (go_at_call 19; refine hI1.mono ?_; rintro e w2 ⟨g2, c2, rfl, o2, b2⟩; refine Hid.out ?_)
      refine Lib.hid ?_
      have l2 := (o2.lt g2 rfl).1
      have o1b := own_below9 o1 b2
      have B2 : Below w.heap.size w w2 := b1.trans (b2.mono b1.size)
      have z1 := b1.size
      have hQ := eq_below (some ⟨g2, 0, none⟩) (some ⟨g1, 0, none⟩) c2 c1 ss w2 (by omega) (StrsAt.of_own o2 rfl) (StrsAt.of_own o1b rfl)
      clear o1 hS hI1
      go_wp2_with (go_at_call 17; refine hQ.mono ?_; rintro e w3 ⟨rfl, b3⟩; refine Hid.out ?_)
      refine Lib.hid ?_
      have o2c := own_below9 o2 b3
      have o1c := own_below9 o1b b3
      have B3 : Below w.heap.size w w3 := B2.trans (b3.mono B2.size)
      have hK := mark_any w1.heap.size g2 c2 ss w3 (by omega) o2c
      clear hQ o2 o1b b3 b2
      go_wp2_with (go_at_call 20; refine hK.mono ?_; rintro e w4 ⟨rfl, o2d, G4⟩; refine Hid.out ?_)
      refine Lib.hid ?_
      have o1d := own_other9 o1c G4 (by simp [Value.ownBlock]; omega)
      have B4 : Below w.heap.size w w4 := B3.grown G4 B3.size (fun k e => by cases e; omega)
      have hH := held_any w1.heap.size g2 c2 ss.length w4 (by omega) o2d
      clear hK o2c o1c G4
      go_wp2_with (go_at_call 21; refine hH.mono ?_; rintro e w5 ⟨rfl, b5⟩; refine Hid.out ?_)
      refine Lib.hid ?_
      have o2e := own_below9 o2d b5
      have o1e := own_below9 o1d b5
      have B5 : Below w.heap.size w w5 := B4.trans (b5.mono B4.size)
      have hI5 := hI w5 B5
      have hm1 : ((1 + (ss.length : Int)) != (1 + (ss.length : Int))) = false := by simp
      have hm2 : ¬ (1 + (ss.length : Int)) < 0 := by omega
      clear hH o2d o1d b5 hI
      go_wp2_with (go_at_call 19; refine hI5.mono ?_; rintro e w6 ⟨g3, c3, rfl, o3, b6⟩; refine Hid.out ?_)
      refine Lib.hid ?_
      have o2f := own_below9 o2e b6
      have o1f := own_below9 o1e b6
      have B6 : Below w.heap.size w w6 := B5.trans (b6.mono B5.size)
      have hQ := eq_below (some ⟨g3, 0, none⟩) (some ⟨g1, 0, none⟩) c3 c1 ss w6 (by omega) (StrsAt.of_own o3 rfl) (StrsAt.of_own o1f rfl)
      clear hI5 o2e o1e b6
      go_wp2_with (go_at_call 17; refine hQ.mono ?_; rintro e w7 ⟨rfl, b7⟩; refine Hid.out ?_)
      refine Lib.hid ?_
      have o2g := own_below9 o2f b7
      have B7 : Below w.heap.size w w7 := B6.trans (b7.mono B6.size)
      have hH := held_any w1.heap.size g2 c2 ss.length w7 (by omega) o2g
      clear hQ o2f o1f o3 b7
      go_wp2_with (go_at_call 21; refine hH.mono ?_; rintro e w8 ⟨rfl, b8⟩)
      go_ret
      exact ⟨rfl, B7.trans (b8.mono B7.size)⟩
    · have hr : ∀ ss, ¬ isRec s.data.toList ss := fun ss h => hx ⟨ss, h⟩
      have hI := fun (W : World) (hb : Below w.heap.size w W) => (hI0 W hb).mono fun e w' h => h.no hr
      have hS := hS0.mono fun e w' h => h.no hr
      have hQ := fun (A B : Option Addr) (ca cb : Nat) (W : World) => eq_below A B ca cb [] W (by simp) (fun h => by simp at h) (fun h => by simp at h)
      simp only [List.length_nil] at hQ
      clear hI0 hS0 hT hE hM hr hx
      go_enter Tryd.func4, Tryd.ntmps4
      go_wp2_with (go_at_call 18; refine hS.mono ?_; rintro e w1 ⟨A1, c1, rfl, b1⟩; refine Hid.out ?_)
      refine Lib.hid ?_
      have hI1 := hI w1 b1
      go_wp2_with (go_at_call 19; refine hI1.mono ?_; rintro e w2 ⟨A2, c2, rfl, b2⟩; refine Hid.out ?_)
      refine Lib.hid ?_
      have B2 : Below w.heap.size w w2 := b1.trans (b2.mono b1.size)
      clear hI1 hS
      go_wp2_with (first | (go_at_call 17; refine (hQ _ _ _ _ _).mono ?_; rintro e w3 ⟨rfl, b3⟩; refine Hid.out ?_))
      refine Lib.hid ?_
      have B3 : Below w.heap.size w w3 := B2.trans (b3.mono B2.size)
      have hI3 := hI w3 B3
      go_wp2_with (first | (go_at_call 20; refine (mark_zero _ _ _).mono ?_; rintro e w' ⟨rfl, rfl⟩) | (go_at_call 21; refine (held_zero _ _ _).mono ?_; rintro e w' ⟨rfl, rfl⟩) | (go_at_call 19; refine hI3.mono ?_; rintro e w4 ⟨A4, c4, rfl, b4⟩; refine Hid.out ?_))
      refine Lib.hid ?_
      have B4 : Below w.heap.size w w4 := B3.trans (b4.mono B3.size)
      go_wp2_with (first | (go_at_call 17; refine (hQ _ _ _ _ _).mono ?_; rintro e w5 ⟨rfl, b5⟩) | (go_at_call 21; refine (held_zero _ _ _).mono ?_; rintro e w' ⟨rfl, rfl⟩))
      go_ret
      exact ⟨rfl, B4.trans (b5.mono B4.size)⟩

end Go.Proofs.YtgnpeoddnahnpaaDoor
