/-
  row: what the disks have in a row, as the program reads it.
-/
import Derived.Test.YtndckncoipkhaaaRCo
import Derived.Test.YtndckncoipkhaaaKL
namespace Go.Proofs.Ytndckncoipkhaaa
open Go.RowKit

theorem latest_is (A B : Option Addr) (c e : Nat) (d : Dk) (k : Nat) (w : World) (hok : DkOk d) (hk : k < 64) (hA : DkAt w A B d) :
    Calls Try.prog 64 #[.agg #[.slice A d.cells.length c, .slice B d.waits.length e, .bool d.gone], .int .i64 k] w fun r w' => r = .returned (.string (latest d (k : Int))) ∧ Below w.heap.size w w' := by
  obtain ⟨cs, ws, g⟩ := d
  exact impl_latest A B c e cs ws g k w hok.1 hok.2.1 hk hA

/-- The row when the first k disks have been read. -/
def rowTo (p0 p1 p2 : RD) (n : Int) (k : Nat) : Array Value :=
  Cut.rowG (if 0 < k then latest p0.d n else ⟨#[]⟩) (if 1 < k then latest p1.d n else ⟨#[]⟩) (if 2 < k then latest p2.d n else ⟨#[]⟩) (if 0 < k then !p0.d.gone else false) (if 1 < k then !p1.d.gone else false) (if 2 < k then !p2.d.gone else false)
/-- A block of six cells. -/
def B6 (W : World) (g : Nat) (xs : Array Value) : Prop := W.heap[g]? = some (.cells xs 108 (0, 0))
theorem B6.new (w : World) (xs : Array Value) : B6 (w.alloc (.cells xs 108)) w.heap.size xs := heap_alloc_new w _
theorem B6.lt {W : World} {g : Nat} {xs : Array Value} (h : B6 W g xs) : g < W.heap.size := (Array.getElem?_eq_some_iff.1 h).1
theorem B6.below {W W' : World} {g : Nat} {xs : Array Value} (h : B6 W g xs) (hb : Below W.heap.size W W') : B6 W' g xs := (hb.block g h.lt).trans h
theorem B6.alloc {W : World} {g : Nat} {xs : Array Value} (h : B6 W g xs) (o : Obj) : B6 (W.alloc o) g xs := (Below.heap_alloc W o g h.lt).trans h
theorem B6.cell {W : World} {g : Nat} {xs : Array Value} (h : B6 W g xs) (i : Nat) : W.cell? ⟨g, i, none⟩ = xs[i]? ∧ W.frozen? ⟨g, i, none⟩ = false := by
  unfold B6 at h
  simp [World.cell?, World.frozen?, h]
theorem B6.put {W : World} {g : Nat} {xs : Array Value} (h : B6 W g xs) (i : Nat) (v : Value) : B6 (W.setCell ⟨g, i, none⟩ v) g (xs.setIfInBounds i v) := by
  unfold B6 at h ⊢
  simp [World.setCell, Array.getElem?_modify, h]
theorem B6.other {W : World} {g : Nat} {xs : Array Value} (h : B6 W g xs) {p : Addr} (hp : g ≠ p.block) (v : Value) : B6 (W.setCell p v) g xs := (Below.heap_setCell W p v g hp).trans h
set_option maxRecDepth 100000 in
set_option maxHeartbeats 4000000 in
theorem impl_row (A : Option Addr) (cap : Nat) (p0 p1 p2 : RD) (n : Nat) (w : World) (hok : ∀ p ∈ [p0, p1, p2], DkOk p.d) (hA : RAt w A [p0, p1, p2]) (hn : n < 64) :
    Calls Try.prog 97 #[.agg #[.slice A 3 cap], .int .i64 n] w fun r w' => r = .returned (.agg (Cut.rowG (latest p0.d n) (latest p1.d n) (latest p2.d n) (!p0.d.gone) (!p1.d.gone) (!p2.d.gone))) ∧ Below w.heap.size w w' := by
  have bl : Below w.heap.size w (w.alloc (.cells #[.slice A 3 cap] 24)) := bel_new (Below.refl _ _) _
  have b0 := B1.new w 24 (.slice A 3 cap)
  go_enter Try.func97, Try.ntmps97
  go_wp2_with fail
  go_loopw [11] (fun i wr => ∃ k : Nat, k ≤ 3 ∧ i = .int .i64 k ∧ B6 wr (w.heap.size + 1 + 1) (rowTo p0 p1 p2 n k) ∧ B6 wr (w.heap.size + 1) #[.string ⟨#[]⟩, .bool false, .string ⟨#[]⟩, .bool false, .string ⟨#[]⟩, .bool false] ∧ Below w.heap.size w wr) (fun i _ => 3 - (intOf i).toNat)
  case atStart =>
    refine ⟨0, by omega, rfl, ?_, ?_, bel_new (bel_new bl _) _⟩
    · have := B6.new ((w.alloc (.cells #[.slice A 3 cap] 24)).alloc (.cells #[.string ⟨#[]⟩, .bool false, .string ⟨#[]⟩, .bool false, .string ⟨#[]⟩, .bool false] 108)) (rowTo p0 p1 p2 n 0)
      rw [World.size_alloc, World.size_alloc] at this
      exact this
    · have := (B6.new (w.alloc (.cells #[.slice A 3 cap] 24)) #[.string ⟨#[]⟩, .bool false, .string ⟨#[]⟩, .bool false, .string ⟨#[]⟩, .bool false]).alloc (.cells #[.string ⟨#[]⟩, .bool false, .string ⟨#[]⟩, .bool false, .string ⟨#[]⟩, .bool false] 108)
      rw [World.size_alloc] at this
      exact this
  case round =>
    obtain ⟨k, hk, rfl, hrow, hres, BB⟩ := hrel
    clear b0 bl
    rcases (show k = 0 ∨ k = 1 ∨ k = 2 ∨ k = 3 by omega) with rfl | rfl | rfl | rfl
    · obtain ⟨bb, off, rfl, hlb, z0, z1, z2, hd⟩ := (hA.below BB).cell 0 (by simp)
      have z0 : wr.cell? ⟨bb, off + 0 * 3, none⟩ = some (.slice p0.a p0.d.cells.length p0.c) := z0
      have z1 : wr.cell? ⟨bb, off + 0 * 3 + 1, none⟩ = some (.slice p0.b p0.d.waits.length p0.e) := z1
      have z2 : wr.cell? ⟨bb, off + 0 * 3 + 2, none⟩ = some (.bool p0.d.gone) := z2
      simp only [Nat.zero_mul, Nat.one_mul, Nat.reduceMul, Nat.add_zero] at z0 z1 z2
      have hL := fun W (hW : Below wr.heap.size wr W) => latest_is p0.a p0.b p0.c p0.e p0.d n W (hok p0 (by simp)) hn (hd.below hW)
      have HE : Hid (((rowTo p0 p1 p2 n 0).setIfInBounds 0 (.string (latest p0.d n))).setIfInBounds 1 (.bool (!p0.d.gone)) = rowTo p0 p1 p2 n 1) := Lib.hid (by simp [rowTo, Cut.rowG])
      obtain ⟨u0, v0⟩ := hrow.cell 0
      obtain ⟨u1, v1⟩ := hrow.cell 1
      have u0 : wr.cell? ⟨w.heap.size + 1 + 1, 0, none⟩ = some (.string ⟨#[]⟩) := u0.trans (by simp [rowTo, Cut.rowG])
      have u1 : wr.cell? ⟨w.heap.size + 1 + 1, 1, none⟩ = some (.bool false) := u1.trans (by simp [rowTo, Cut.rowG])
      have HR := Lib.hid hrow
      have hrl := hrow.lt
      have dx := Bx.new wr 60 (.slice p0.a p0.d.cells.length p0.c) (.slice p0.b p0.d.waits.length p0.e) (.bool p0.d.gone)
      have bW : Below wr.heap.size wr (wr.alloc (.cells #[.slice p0.a p0.d.cells.length p0.c, .slice p0.b p0.d.waits.length p0.e, .bool p0.d.gone] 60)) := bel_new (Below.refl _ _) _
      have hS := hL _ bW.drew
      obtain ⟨xl, hxl⟩ : ∃ xl, xl = latest p0.d n := ⟨_, rfl⟩
      rw [← hxl] at hS HE
      clear hL hd hxl hrow
      go_upto_region 5 with fail
      generalize hWW : wr.alloc (.cells #[.slice p0.a p0.d.cells.length p0.c, .slice p0.b p0.d.waits.length p0.e, .bool p0.d.gone] 60) = W1 at *
      clear hWW
      obtain ⟨⟨d0, d1, d2⟩, _, _, _⟩ := dx.cells
      have t0 := (bW.cell (p := ⟨w.heap.size + 1 + 1, 0, none⟩) hrl).trans u0
      have t1 := (bW.cell (p := ⟨w.heap.size + 1 + 1, 1, none⟩) hrl).trans u1
      have r1 := HR.out.below bW
      have res1 := hres.below bW
      go_region_law (go_simp; go_at_call 64; refine hS.mono ?_; rintro r w4 ⟨rfl, hb4⟩; obtain ⟨⟨d0', d1', d2'⟩, _, _, _⟩ := (Bx.below (W := W1.drew) dx hb4).cells; have r4 := B6.below (W := W1.drew) r1 hb4; have t0' := (hb4.cell (p := ⟨w.heap.size + 1 + 1, 0, none⟩) r1.lt).trans (show W1.drew.cell? ⟨w.heap.size + 1 + 1, 0, none⟩ = _ from t0); have t1' := (hb4.cell (p := ⟨w.heap.size + 1 + 1, 1, none⟩) r1.lt).trans (show W1.drew.cell? ⟨w.heap.size + 1 + 1, 1, none⟩ = _ from t1); have f0' := (r4.cell 0).2; have f1' := (r4.cell 1).2)
      all_goals
        have E4 := (r4.put 0 (.string xl)).put 1 (.bool (!p0.d.gone))
        rw [HE.out] at E4
        have B4 := ((bel_then (bel_then BB bW).drew hb4).setCell (p := ⟨w.heap.size + 1 + 1, 0, none⟩) (by show w.heap.size ≤ w.heap.size + 1 + 1; omega) (.string xl)).setCell (p := ⟨w.heap.size + 1 + 1, 1, none⟩) (by show w.heap.size ≤ w.heap.size + 1 + 1; omega) (.bool (!p0.d.gone))
        have S4 := ((B6.below (W := W1.drew) res1 hb4).other (p := ⟨w.heap.size + 1 + 1, 0, none⟩) (by show w.heap.size + 1 ≠ w.heap.size + 1 + 1; omega) (.string xl)).other (p := ⟨w.heap.size + 1 + 1, 1, none⟩) (by show w.heap.size + 1 ≠ w.heap.size + 1 + 1; omega) (.bool (!p0.d.gone))
        have HE4 := Lib.hid E4
        have HB4 := Lib.hid B4
        have HS4 := Lib.hid S4
        clear E4 B4 S4
        go_wp2_with fail
        go_roundw
        case rel => exact ⟨1, by omega, by go_num, HE4.out, HS4.out, HB4.out⟩
        case measure => simp [intOf]
    · obtain ⟨bb, off, rfl, hlb, z0, z1, z2, hd⟩ := (hA.below BB).cell 1 (by simp)
      have z0 : wr.cell? ⟨bb, off + 1 * 3, none⟩ = some (.slice p1.a p1.d.cells.length p1.c) := z0
      have z1 : wr.cell? ⟨bb, off + 1 * 3 + 1, none⟩ = some (.slice p1.b p1.d.waits.length p1.e) := z1
      have z2 : wr.cell? ⟨bb, off + 1 * 3 + 2, none⟩ = some (.bool p1.d.gone) := z2
      simp only [Nat.zero_mul, Nat.one_mul, Nat.reduceMul, Nat.add_zero] at z0 z1 z2
      have hL := fun W (hW : Below wr.heap.size wr W) => latest_is p1.a p1.b p1.c p1.e p1.d n W (hok p1 (by simp)) hn (hd.below hW)
      have HE : Hid (((rowTo p0 p1 p2 n 1).setIfInBounds 2 (.string (latest p1.d n))).setIfInBounds 3 (.bool (!p1.d.gone)) = rowTo p0 p1 p2 n 2) := Lib.hid (by simp [rowTo, Cut.rowG])
      obtain ⟨u0, v0⟩ := hrow.cell 2
      obtain ⟨u1, v1⟩ := hrow.cell 3
      have u0 : wr.cell? ⟨w.heap.size + 1 + 1, 2, none⟩ = some (.string ⟨#[]⟩) := u0.trans (by simp [rowTo, Cut.rowG])
      have u1 : wr.cell? ⟨w.heap.size + 1 + 1, 3, none⟩ = some (.bool false) := u1.trans (by simp [rowTo, Cut.rowG])
      have HR := Lib.hid hrow
      have hrl := hrow.lt
      have dx := Bx.new wr 60 (.slice p1.a p1.d.cells.length p1.c) (.slice p1.b p1.d.waits.length p1.e) (.bool p1.d.gone)
      have bW : Below wr.heap.size wr (wr.alloc (.cells #[.slice p1.a p1.d.cells.length p1.c, .slice p1.b p1.d.waits.length p1.e, .bool p1.d.gone] 60)) := bel_new (Below.refl _ _) _
      have hS := hL _ bW.drew
      obtain ⟨xl, hxl⟩ : ∃ xl, xl = latest p1.d n := ⟨_, rfl⟩
      rw [← hxl] at hS HE
      clear hL hd hxl hrow
      go_upto_region 5 with fail
      generalize hWW : wr.alloc (.cells #[.slice p1.a p1.d.cells.length p1.c, .slice p1.b p1.d.waits.length p1.e, .bool p1.d.gone] 60) = W1 at *
      clear hWW
      obtain ⟨⟨d0, d1, d2⟩, _, _, _⟩ := dx.cells
      have t0 := (bW.cell (p := ⟨w.heap.size + 1 + 1, 2, none⟩) hrl).trans u0
      have t1 := (bW.cell (p := ⟨w.heap.size + 1 + 1, 3, none⟩) hrl).trans u1
      have r1 := HR.out.below bW
      have res1 := hres.below bW
      go_region_law (go_simp; go_at_call 64; refine hS.mono ?_; rintro r w4 ⟨rfl, hb4⟩; obtain ⟨⟨d0', d1', d2'⟩, _, _, _⟩ := (Bx.below (W := W1.drew) dx hb4).cells; have r4 := B6.below (W := W1.drew) r1 hb4; have t0' := (hb4.cell (p := ⟨w.heap.size + 1 + 1, 2, none⟩) r1.lt).trans (show W1.drew.cell? ⟨w.heap.size + 1 + 1, 2, none⟩ = _ from t0); have t1' := (hb4.cell (p := ⟨w.heap.size + 1 + 1, 3, none⟩) r1.lt).trans (show W1.drew.cell? ⟨w.heap.size + 1 + 1, 3, none⟩ = _ from t1); have f0' := (r4.cell 2).2; have f1' := (r4.cell 3).2)
      all_goals
        have E4 := (r4.put 2 (.string xl)).put 3 (.bool (!p1.d.gone))
        rw [HE.out] at E4
        have B4 := ((bel_then (bel_then BB bW).drew hb4).setCell (p := ⟨w.heap.size + 1 + 1, 2, none⟩) (by show w.heap.size ≤ w.heap.size + 1 + 1; omega) (.string xl)).setCell (p := ⟨w.heap.size + 1 + 1, 3, none⟩) (by show w.heap.size ≤ w.heap.size + 1 + 1; omega) (.bool (!p1.d.gone))
        have S4 := ((B6.below (W := W1.drew) res1 hb4).other (p := ⟨w.heap.size + 1 + 1, 2, none⟩) (by show w.heap.size + 1 ≠ w.heap.size + 1 + 1; omega) (.string xl)).other (p := ⟨w.heap.size + 1 + 1, 3, none⟩) (by show w.heap.size + 1 ≠ w.heap.size + 1 + 1; omega) (.bool (!p1.d.gone))
        have HE4 := Lib.hid E4
        have HB4 := Lib.hid B4
        have HS4 := Lib.hid S4
        clear E4 B4 S4
        go_wp2_with fail
        go_roundw
        case rel => exact ⟨2, by omega, by go_num, HE4.out, HS4.out, HB4.out⟩
        case measure => simp [intOf]
    · obtain ⟨bb, off, rfl, hlb, z0, z1, z2, hd⟩ := (hA.below BB).cell 2 (by simp)
      have z0 : wr.cell? ⟨bb, off + 2 * 3, none⟩ = some (.slice p2.a p2.d.cells.length p2.c) := z0
      have z1 : wr.cell? ⟨bb, off + 2 * 3 + 1, none⟩ = some (.slice p2.b p2.d.waits.length p2.e) := z1
      have z2 : wr.cell? ⟨bb, off + 2 * 3 + 2, none⟩ = some (.bool p2.d.gone) := z2
      simp only [Nat.zero_mul, Nat.one_mul, Nat.reduceMul, Nat.add_zero] at z0 z1 z2
      have hL := fun W (hW : Below wr.heap.size wr W) => latest_is p2.a p2.b p2.c p2.e p2.d n W (hok p2 (by simp)) hn (hd.below hW)
      have HE : Hid (((rowTo p0 p1 p2 n 2).setIfInBounds 4 (.string (latest p2.d n))).setIfInBounds 5 (.bool (!p2.d.gone)) = rowTo p0 p1 p2 n 3) := Lib.hid (by simp [rowTo, Cut.rowG])
      obtain ⟨u0, v0⟩ := hrow.cell 4
      obtain ⟨u1, v1⟩ := hrow.cell 5
      have u0 : wr.cell? ⟨w.heap.size + 1 + 1, 4, none⟩ = some (.string ⟨#[]⟩) := u0.trans (by simp [rowTo, Cut.rowG])
      have u1 : wr.cell? ⟨w.heap.size + 1 + 1, 5, none⟩ = some (.bool false) := u1.trans (by simp [rowTo, Cut.rowG])
      have HR := Lib.hid hrow
      have hrl := hrow.lt
      have dx := Bx.new wr 60 (.slice p2.a p2.d.cells.length p2.c) (.slice p2.b p2.d.waits.length p2.e) (.bool p2.d.gone)
      have bW : Below wr.heap.size wr (wr.alloc (.cells #[.slice p2.a p2.d.cells.length p2.c, .slice p2.b p2.d.waits.length p2.e, .bool p2.d.gone] 60)) := bel_new (Below.refl _ _) _
      have hS := hL _ bW.drew
      obtain ⟨xl, hxl⟩ : ∃ xl, xl = latest p2.d n := ⟨_, rfl⟩
      rw [← hxl] at hS HE
      clear hL hd hxl hrow
      go_upto_region 5 with fail
      generalize hWW : wr.alloc (.cells #[.slice p2.a p2.d.cells.length p2.c, .slice p2.b p2.d.waits.length p2.e, .bool p2.d.gone] 60) = W1 at *
      clear hWW
      obtain ⟨⟨d0, d1, d2⟩, _, _, _⟩ := dx.cells
      have t0 := (bW.cell (p := ⟨w.heap.size + 1 + 1, 4, none⟩) hrl).trans u0
      have t1 := (bW.cell (p := ⟨w.heap.size + 1 + 1, 5, none⟩) hrl).trans u1
      have r1 := HR.out.below bW
      have res1 := hres.below bW
      go_region_law (go_simp; go_at_call 64; refine hS.mono ?_; rintro r w4 ⟨rfl, hb4⟩; obtain ⟨⟨d0', d1', d2'⟩, _, _, _⟩ := (Bx.below (W := W1.drew) dx hb4).cells; have r4 := B6.below (W := W1.drew) r1 hb4; have t0' := (hb4.cell (p := ⟨w.heap.size + 1 + 1, 4, none⟩) r1.lt).trans (show W1.drew.cell? ⟨w.heap.size + 1 + 1, 4, none⟩ = _ from t0); have t1' := (hb4.cell (p := ⟨w.heap.size + 1 + 1, 5, none⟩) r1.lt).trans (show W1.drew.cell? ⟨w.heap.size + 1 + 1, 5, none⟩ = _ from t1); have f0' := (r4.cell 4).2; have f1' := (r4.cell 5).2)
      all_goals
        have E4 := (r4.put 4 (.string xl)).put 5 (.bool (!p2.d.gone))
        rw [HE.out] at E4
        have B4 := ((bel_then (bel_then BB bW).drew hb4).setCell (p := ⟨w.heap.size + 1 + 1, 4, none⟩) (by show w.heap.size ≤ w.heap.size + 1 + 1; omega) (.string xl)).setCell (p := ⟨w.heap.size + 1 + 1, 5, none⟩) (by show w.heap.size ≤ w.heap.size + 1 + 1; omega) (.bool (!p2.d.gone))
        have S4 := ((B6.below (W := W1.drew) res1 hb4).other (p := ⟨w.heap.size + 1 + 1, 4, none⟩) (by show w.heap.size + 1 ≠ w.heap.size + 1 + 1; omega) (.string xl)).other (p := ⟨w.heap.size + 1 + 1, 5, none⟩) (by show w.heap.size + 1 ≠ w.heap.size + 1 + 1; omega) (.bool (!p2.d.gone))
        have HE4 := Lib.hid E4
        have HB4 := Lib.hid B4
        have HS4 := Lib.hid S4
        clear E4 B4 S4
        go_wp2_with fail
        go_roundw
        case rel => exact ⟨3, by omega, by go_num, HE4.out, HS4.out, HB4.out⟩
        case measure => simp [intOf]
    · have he : rowTo p0 p1 p2 n 3 = Cut.rowG (latest p0.d n) (latest p1.d n) (latest p2.d n) (!p0.d.gone) (!p1.d.gone) (!p2.d.gone) := by simp [rowTo]
      rw [he] at hrow
      obtain ⟨x0, _⟩ := hrow.cell 0
      obtain ⟨x1, _⟩ := hrow.cell 1
      obtain ⟨x2, _⟩ := hrow.cell 2
      obtain ⟨x3, _⟩ := hrow.cell 3
      obtain ⟨x4, _⟩ := hrow.cell 4
      obtain ⟨x5, _⟩ := hrow.cell 5
      obtain ⟨y0, _⟩ := hres.cell 0
      obtain ⟨y1, _⟩ := hres.cell 1
      obtain ⟨y2, _⟩ := hres.cell 2
      obtain ⟨y3, _⟩ := hres.cell 3
      obtain ⟨y4, _⟩ := hres.cell 4
      obtain ⟨y5, _⟩ := hres.cell 5
      have z0 := (hres.cell 0).2
      have z1 := (hres.cell 1).2
      have z2 := (hres.cell 2).2
      have z3 := (hres.cell 3).2
      have z4 := (hres.cell 4).2
      have z5 := (hres.cell 5).2
      simp only [Cut.rowG] at x0 x1 x2 x3 x4 x5
      simp at x0 x1 x2 x3 x4 x5 y0 y1 y2 y3 y4 y5
      clear he hrow
      have E6 := ((((((hres.put 0 (.string (latest p0.d n))).put 1 (.bool (!p0.d.gone))).put 2 (.string (latest p1.d n))).put 3 (.bool (!p1.d.gone))).put 4 (.string (latest p2.d n))).put 5 (.bool (!p2.d.gone)))
      have B7 := (Below.setCell (Below.setCell (Below.setCell (Below.setCell (Below.setCell (Below.setCell BB (p := ⟨w.heap.size + 1, 0, none⟩) (Nat.le_succ _) (.string (latest p0.d n))) (p := ⟨w.heap.size + 1, 1, none⟩) (Nat.le_succ _) (.bool (!p0.d.gone))) (p := ⟨w.heap.size + 1, 2, none⟩) (Nat.le_succ _) (.string (latest p1.d n))) (p := ⟨w.heap.size + 1, 3, none⟩) (Nat.le_succ _) (.bool (!p1.d.gone))) (p := ⟨w.heap.size + 1, 4, none⟩) (Nat.le_succ _) (.string (latest p2.d n))) (p := ⟨w.heap.size + 1, 5, none⟩) (Nat.le_succ _) (.bool (!p2.d.gone)))
      simp only [List.setIfInBounds_toArray] at E6
      have HE6 := Lib.hid E6
      have HB7 := Lib.hid B7
      clear E6 B7
      go_wp2_with fail
      have E6 := HE6.out
      have B7 := HB7.out
      generalize hV : (((((wr.setCell ⟨w.heap.size + 1, 0, none⟩ (.string (latest p0.d n))).setCell ⟨w.heap.size + 1, 1, none⟩ (.bool (!p0.d.gone))).setCell ⟨w.heap.size + 1, 2, none⟩ (.string (latest p1.d n))).setCell ⟨w.heap.size + 1, 3, none⟩ (.bool (!p1.d.gone))).setCell ⟨w.heap.size + 1, 4, none⟩ (.string (latest p2.d n))).setCell ⟨w.heap.size + 1, 5, none⟩ (.bool (!p2.d.gone)) = V at *
      have q0 := (E6.cell 0).1
      have q1 := (E6.cell 1).1
      have q2 := (E6.cell 2).1
      have q3 := (E6.cell 3).1
      have q4 := (E6.cell 4).1
      have q5 := (E6.cell 5).1
      simp at q0 q1 q2 q3 q4 q5
      exact bodyPost_ret (v := .agg (Cut.rowG (latest p0.d n) (latest p1.d n) (latest p2.d n) (!p0.d.gone) (!p1.d.gone) (!p2.d.gone))) (by simp [results, Try.f97, go_sem, q0, q1, q2, q3, q4, q5, Cut.rowG]) rfl ⟨rfl, B7⟩
end Go.Proofs.Ytndckncoipkhaaa
