/-
  The draws of one pointer, and FnPtrApart's walk: unlike pointers have unlike texts.
-/
import Derived.Test.YtlfggmllpbghaaaDoorPtrDraw
import Derived.Test.YtlfggmllpbghaaaDoorInj
namespace Go.Proofs.YtlfggmllpbghaaaDoor
open Go.RowKit

theorem bytes_at_below {w w' : World} {A : Option Addr} {n : Nat} (h : BytesAt w A n) (hb : Below w.heap.size w w') : BytesAt w' A n := by
  intro h0
  obtain ⟨b, off, rfl, hlt, hc⟩ := h h0
  refine ⟨b, off, rfl, Nat.lt_of_lt_of_le hlt hb.size, fun j hj => ?_⟩
  obtain ⟨z, z0, z1, hz⟩ := hc j hj
  exact ⟨z, z0, z1, (hb.cell (p := ⟨b, off + j, none⟩) hlt).trans hz⟩
def DrawP (w : World) (r : Ending) (w' : World) : Prop :=
  ∃ a b c d e : Int, r = .returned (.agg #[.int .i64 a, .int .i64 b, .int .i64 c, .int .i64 d, .int .i64 e]) ∧ Below w.heap.size w w'

set_option maxRecDepth 100000 in
set_option maxHeartbeats 1000000 in
theorem draw_ptr21 (A : Option Addr) (n cap : Nat) (w : World) (hn : n ≤ cap) (hA : BytesAt w A n) :
    Calls Tryd.prog 21 #[.slice A n cap] w (DrawP w) := by
  have hO := fun (o : Obj) => open_rd A n cap (w.alloc o) hn (bytes_at_below hA (bel_new (Below.refl _ _) _))
  go_enter Tryd.func21, Tryd.ntmps21
  go_wp2_with (go_at_call 40; refine (hO _).mono ?_; rintro e w1 ⟨A1, m, c1, B, rfl, hr⟩; refine Hid.out ?_)
  refine Lib.hid ?_
  have hP := ptr_rd _ w1 B A1 m c1 0 hr (by omega)
  clear hO hr
  go_wp2_with (go_at_call 41; refine hP.mono ?_; rintro r w2 ⟨a, b, c, d, e, p', rfl, h2, _⟩; refine Hid.out ?_)
  refine Lib.hid ?_
  have hb := bel_then (bel_new (Below.refl _ w) _) h2.bel
  have bR := (Box.new w 0 0 0 0 0).below h2.bel
  obtain ⟨⟨r0, r1, r2, r3, r4⟩, t0, t1, t2, t3, t4⟩ := bR.cells
  clear hP bR h2
  go_wp2_with fail
  refine bodyPost_ret (v := .agg #[.int .i64 a, .int .i64 b, .int .i64 c, .int .i64 d, .int .i64 e]) (by simp [results, Tryd.f21, go_sem, *]) rfl ⟨a, b, c, d, e, rfl, ((((hb.setCell (p := ⟨w.heap.size, 0, none⟩) (Nat.le_refl _) _).setCell (p := ⟨w.heap.size, 1, none⟩) (Nat.le_refl _) _).setCell (p := ⟨w.heap.size, 2, none⟩) (Nat.le_refl _) _).setCell (p := ⟨w.heap.size, 3, none⟩) (Nat.le_refl _) _).setCell (p := ⟨w.heap.size, 4, none⟩) (Nat.le_refl _) _⟩

set_option maxRecDepth 100000 in
set_option maxHeartbeats 1000000 in
theorem draw_ptr14 (A : Option Addr) (n cap : Nat) (w : World) (hn : n ≤ cap) (hA : BytesAt w A n) :
    Calls Tryd.prog 14 #[.slice A n cap] w (DrawP w) := by
  have hO := fun (o : Obj) => open_rd A n cap (w.alloc o) hn (bytes_at_below hA (bel_new (Below.refl _ _) _))
  go_enter Tryd.func14, Tryd.ntmps14
  go_wp2_with (go_at_call 40; refine (hO _).mono ?_; rintro e w1 ⟨A1, m, c1, B, rfl, hr⟩; refine Hid.out ?_)
  refine Lib.hid ?_
  have hP := ptr_rd _ w1 B A1 m c1 0 hr (by omega)
  clear hO hr
  go_wp2_with (go_at_call 41; refine hP.mono ?_; rintro r w2 ⟨a, b, c, d, e, p', rfl, h2, _⟩; refine Hid.out ?_)
  refine Lib.hid ?_
  have hb := bel_then (bel_new (Below.refl _ w) _) h2.bel
  have bR := (Box.new w 0 0 0 0 0).below h2.bel
  obtain ⟨⟨r0, r1, r2, r3, r4⟩, t0, t1, t2, t3, t4⟩ := bR.cells
  clear hP bR h2
  go_wp2_with fail
  refine bodyPost_ret (v := .agg #[.int .i64 a, .int .i64 b, .int .i64 c, .int .i64 d, .int .i64 e]) (by simp [results, Tryd.f14, go_sem, *]) rfl ⟨a, b, c, d, e, rfl, ((((hb.setCell (p := ⟨w.heap.size, 0, none⟩) (Nat.le_refl _) _).setCell (p := ⟨w.heap.size, 1, none⟩) (Nat.le_refl _) _).setCell (p := ⟨w.heap.size, 2, none⟩) (Nat.le_refl _) _).setCell (p := ⟨w.heap.size, 3, none⟩) (Nat.le_refl _) _).setCell (p := ⟨w.heap.size, 4, none⟩) (Nat.le_refl _) _⟩

set_option maxRecDepth 100000 in
set_option maxHeartbeats 1000000 in
theorem draw_ptr18 (A : Option Addr) (n cap : Nat) (w : World) (hn : n ≤ cap) (hA : BytesAt w A n) :
    Calls Tryd.prog 18 #[.slice A n cap] w (DrawP w) := by
  have hO := fun (o : Obj) => open_rd A n cap (w.alloc o) hn (bytes_at_below hA (bel_new (Below.refl _ _) _))
  go_enter Tryd.func18, Tryd.ntmps18
  go_wp2_with (go_at_call 40; refine (hO _).mono ?_; rintro e w1 ⟨A1, m, c1, B, rfl, hr⟩; refine Hid.out ?_)
  refine Lib.hid ?_
  have hP := ptr_rd _ w1 B A1 m c1 0 hr (by omega)
  clear hO hr
  go_wp2_with (go_at_call 41; refine hP.mono ?_; rintro r w2 ⟨a, b, c, d, e, p', rfl, h2, _⟩; refine Hid.out ?_)
  refine Lib.hid ?_
  have hb := bel_then (bel_new (Below.refl _ w) _) h2.bel
  have bR := (Box.new w 0 0 0 0 0).below h2.bel
  obtain ⟨⟨r0, r1, r2, r3, r4⟩, t0, t1, t2, t3, t4⟩ := bR.cells
  clear hP bR h2
  go_wp2_with fail
  refine bodyPost_ret (v := .agg #[.int .i64 a, .int .i64 b, .int .i64 c, .int .i64 d, .int .i64 e]) (by simp [results, Tryd.f18, go_sem, *]) rfl ⟨a, b, c, d, e, rfl, ((((hb.setCell (p := ⟨w.heap.size, 0, none⟩) (Nat.le_refl _) _).setCell (p := ⟨w.heap.size, 1, none⟩) (Nat.le_refl _) _).setCell (p := ⟨w.heap.size, 2, none⟩) (Nat.le_refl _) _).setCell (p := ⟨w.heap.size, 3, none⟩) (Nat.le_refl _) _).setCell (p := ⟨w.heap.size, 4, none⟩) (Nat.le_refl _) _⟩

end Go.Proofs.YtlfggmllpbghaaaDoor
