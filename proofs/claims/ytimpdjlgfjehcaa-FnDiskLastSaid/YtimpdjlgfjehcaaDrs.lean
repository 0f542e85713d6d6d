/-
  The draws of the laws on disks.
-/
import Derived.Test.YtimpdjlgfjehcaaDrP
import Derived.Test.YtimpdjlgfjehcaaDrD
import Derived.Test.YtimpdjlgfjehcaaMD
namespace Go.Proofs.Ytimpdjlgfjehcaa
open Go.RowKit

theorem bytes_below {w w' : World} {A : Option Addr} {n : Nat} (h : BytesAt w A n) (hb : Below w.heap.size w w') : BytesAt w' A n := fun h0 => by
  obtain ⟨b, off, e, hlt, hc⟩ := h h0
  refine ⟨b, off, e, Nat.lt_of_lt_of_le hlt hb.size, fun j hj => ?_⟩
  obtain ⟨z, z0, z1, hz⟩ := hc j hj
  exact ⟨z, z0, z1, (hb.cell (p := ⟨b, off + j, none⟩) hlt).trans hz⟩

set_option maxRecDepth 100000 in
set_option maxHeartbeats 4000000 in
theorem draw_write (A : Option Addr) (n cap : Nat) (w : World) (hn : n ≤ cap) (hA : BytesAt w A n) : Calls Try.prog 15 #[.slice A n cap] w (Drawn3 w) := by
  have bl : Below w.heap.size w (w.alloc (.cells #[.slice none 0 0, .slice none 0 0, .bool false] 26)) := bel_new (Below.refl _ _) _
  have b0 := Bx.new w 26 (.slice none 0 0) (.slice none 0 0) (.bool false)
  have hO := open_rd A n cap (w.alloc (.cells #[.slice none 0 0, .slice none 0 0, .bool false] 26)) hn (bytes_below hA bl)
  go_enter Try.func15, Try.ntmps15
  go_wp2_with (go_at_call 20; refine hO.mono ?_; rintro r w1 ⟨A1, m1, c1, B1, rfl, h1⟩; refine Hid.out ?_)
  refine Lib.hid ?_
  have b1 := b0.below h1.bel
  have hD := disk_gr _ w1 B1 A1 m1 c1 0 h1 (by omega)
  have hR1 := h1.old
  rw [World.size_alloc] at hR1
  clear hO b0
  go_wp2_with (go_at_call 21; refine hD.mono ?_; rintro r w2 ⟨d, Av, c, Bv, e, p', rfl, hat, hbk, h2, hp, g2⟩; refine Hid.out ?_)
  refine Lib.hid ?_
  have bx := b1.grown g2 (fun e => by injection e with e; omega)
  clear hD b1
  have hC := cell_gr _ w2 B1 A1 m1 c1 _ h2 (by omega)
  go_wp2_with (go_at_call 30; refine hC.mono ?_; rintro r w3 ⟨x, p3, rfl, x0, x1, h3, hp3, g3⟩; refine Hid.out ?_)
  refine Lib.hid ?_
  have hat := hat.read h2 g3
  have bx := bx.grown g3 (fun e => by injection e with e; omega)
  clear hC
  have hC := cells_gr _ w3 B1 A1 m1 c1 _ h3 (by omega)
  go_wp2_with (go_at_call 31; refine hC.mono ?_; rintro r w4 ⟨t, p4, rfl, ht, h4, hp4, g4⟩; refine Hid.out ?_)
  refine Lib.hid ?_
  have hat := hat.read h3 g4
  have bx := bx.grown g4 (fun e => by injection e with e; omega)
  clear hC
  have BB := bel_then bl h4.bel
  have HF := hat.box bx
  have HB := below_box BB
  obtain ⟨⟨x0, x1, x2⟩, f0, f1, f2⟩ := bx.cells
  go_wp2_with fail
  refine bodyPost_ret (v := .tuple #[.agg #[.slice Av d.cells.length c, .slice Bv d.waits.length e, .bool d.gone], .int .i64 x, .string t]) (by simp [results, Try.f15, go_sem, x0, x1, x2]) rfl ?_
  exact ⟨d, Av, c, Bv, e, x, t, rfl, HF _ _ _, hbk, ht, HB _ _ _⟩
set_option maxRecDepth 100000 in
set_option maxHeartbeats 4000000 in
theorem draw_spoil (A : Option Addr) (n cap : Nat) (w : World) (hn : n ≤ cap) (hA : BytesAt w A n) : Calls Try.prog 12 #[.slice A n cap] w (Drawn3 w) := by
  have bl : Below w.heap.size w (w.alloc (.cells #[.slice none 0 0, .slice none 0 0, .bool false] 26)) := bel_new (Below.refl _ _) _
  have b0 := Bx.new w 26 (.slice none 0 0) (.slice none 0 0) (.bool false)
  have hO := open_rd A n cap (w.alloc (.cells #[.slice none 0 0, .slice none 0 0, .bool false] 26)) hn (bytes_below hA bl)
  go_enter Try.func12, Try.ntmps12
  go_wp2_with (go_at_call 20; refine hO.mono ?_; rintro r w1 ⟨A1, m1, c1, B1, rfl, h1⟩; refine Hid.out ?_)
  refine Lib.hid ?_
  have b1 := b0.below h1.bel
  have hD := disk_gr _ w1 B1 A1 m1 c1 0 h1 (by omega)
  have hR1 := h1.old
  rw [World.size_alloc] at hR1
  clear hO b0
  go_wp2_with (go_at_call 21; refine hD.mono ?_; rintro r w2 ⟨d, Av, c, Bv, e, p', rfl, hat, hbk, h2, hp, g2⟩; refine Hid.out ?_)
  refine Lib.hid ?_
  have bx := b1.grown g2 (fun e => by injection e with e; omega)
  clear hD b1
  have hC := cell_gr _ w2 B1 A1 m1 c1 _ h2 (by omega)
  go_wp2_with (go_at_call 30; refine hC.mono ?_; rintro r w3 ⟨x, p3, rfl, x0, x1, h3, hp3, g3⟩; refine Hid.out ?_)
  refine Lib.hid ?_
  have hat := hat.read h2 g3
  have bx := bx.grown g3 (fun e => by injection e with e; omega)
  clear hC
  have hC := cells_gr _ w3 B1 A1 m1 c1 _ h3 (by omega)
  go_wp2_with (go_at_call 31; refine hC.mono ?_; rintro r w4 ⟨t, p4, rfl, ht, h4, hp4, g4⟩; refine Hid.out ?_)
  refine Lib.hid ?_
  have hat := hat.read h3 g4
  have bx := bx.grown g4 (fun e => by injection e with e; omega)
  clear hC
  have BB := bel_then bl h4.bel
  have HF := hat.box bx
  have HB := below_box BB
  obtain ⟨⟨x0, x1, x2⟩, f0, f1, f2⟩ := bx.cells
  go_wp2_with fail
  refine bodyPost_ret (v := .tuple #[.agg #[.slice Av d.cells.length c, .slice Bv d.waits.length e, .bool d.gone], .int .i64 x, .string t]) (by simp [results, Try.f12, go_sem, x0, x1, x2]) rfl ?_
  exact ⟨d, Av, c, Bv, e, x, t, rfl, HF _ _ _, hbk, ht, HB _ _ _⟩
set_option maxRecDepth 100000 in
set_option maxHeartbeats 4000000 in
theorem draw_crash (A : Option Addr) (n cap : Nat) (w : World) (hn : n ≤ cap) (hA : BytesAt w A n) : Calls Try.prog 6 #[.slice A n cap] w (DrawnM w) := by
  have bl : Below w.heap.size w (w.alloc (.cells #[.slice none 0 0, .slice none 0 0, .bool false] 26)) := bel_new (Below.refl _ _) _
  have b0 := Bx.new w 26 (.slice none 0 0) (.slice none 0 0) (.bool false)
  have hO := open_rd A n cap (w.alloc (.cells #[.slice none 0 0, .slice none 0 0, .bool false] 26)) hn (bytes_below hA bl)
  go_enter Try.func6, Try.ntmps6
  go_wp2_with (go_at_call 20; refine hO.mono ?_; rintro r w1 ⟨A1, m1, c1, B1, rfl, h1⟩; refine Hid.out ?_)
  refine Lib.hid ?_
  have b1 := b0.below h1.bel
  have hD := disk_gr _ w1 B1 A1 m1 c1 0 h1 (by omega)
  have hR1 := h1.old
  rw [World.size_alloc] at hR1
  clear hO b0
  go_wp2_with (go_at_call 21; refine hD.mono ?_; rintro r w2 ⟨d, Av, c, Bv, e, p', rfl, hat, hbk, h2, hp, g2⟩; refine Hid.out ?_)
  refine Lib.hid ?_
  have bx := b1.grown g2 (fun e => by injection e with e; omega)
  clear hD b1
  have hC := mask_gr _ w2 B1 A1 m1 c1 _ h2 (by omega)
  go_wp2_with (go_at_call 22; refine hC.mono ?_; rintro r w3 ⟨x, p3, rfl, x0, x1, h3, hp3, g3⟩; refine Hid.out ?_)
  refine Lib.hid ?_
  have hat := hat.read h2 g3
  have bx := bx.grown g3 (fun e => by injection e with e; omega)
  clear hC
  have hC := pick_rd _ w3 B1 A1 m1 c1 _ 9 h3 (by omega) (by omega) (by omega)
  go_wp2_with (go_at_call 23; refine hC.mono ?_; rintro r w4 ⟨y, y0, y1, rfl, h4, g4⟩; refine Hid.out ?_)
  refine Lib.hid ?_
  have hat := hat.read h3 g4
  have bx := bx.grown g4 (fun e => by injection e with e; omega)
  clear hC
  have hwy := IntWalk.i64_in (y - 2) (by omega)
  have BB := bel_then bl h4.bel
  have HF := hat.box bx
  have HB := below_box BB
  obtain ⟨⟨x0, x1, x2⟩, f0, f1, f2⟩ := bx.cells
  go_wp2_with fail
  refine bodyPost_ret (v := .tuple #[.agg #[.slice Av d.cells.length c, .slice Bv d.waits.length e, .bool d.gone], .int .i64 x, .int .i64 (y - 2)]) (by simp [results, Try.f6, go_sem, x0, x1, x2]) rfl ?_
  exact ⟨d, Av, c, Bv, e, x, y - 2, rfl, HF _ _ _, hbk, by omega, HB _ _ _⟩
end Go.Proofs.Ytimpdjlgfjehcaa
