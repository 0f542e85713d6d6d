/-
  A law's copy of a store; its marks.
-/
import Derived.Test.YtmnamclndpfjnaaStM
namespace Go.Proofs.Ytmnamclndpfjnaa
open Go.RowKit

theorem heap_put {W : World} {g : Nat} {cs : Array Value} {t : TypeId} (h : W.heap[g]? = some (.cells cs t (0, 0))) (i : Nat) (u : Value) : (W.setCell ⟨g, i, none⟩ u).heap[g]? = some (.cells (cs.setIfInBounds i u) t (0, 0)) := by
  simp [World.setCell, Array.getElem?_modify, h]
theorem B8.put0 {W : World} {g : Nat} {t : TypeId} {v0 v1 v2 v3 v4 v5 v6 v7 : Value} (h : B8 W g t v0 v1 v2 v3 v4 v5 v6 v7) (u : Value) : B8 (W.setCell ⟨g, 0, none⟩ u) g t u v1 v2 v3 v4 v5 v6 v7 := heap_put h 0 u
theorem B8.put1 {W : World} {g : Nat} {t : TypeId} {v0 v1 v2 v3 v4 v5 v6 v7 : Value} (h : B8 W g t v0 v1 v2 v3 v4 v5 v6 v7) (u : Value) : B8 (W.setCell ⟨g, 1, none⟩ u) g t v0 u v2 v3 v4 v5 v6 v7 := heap_put h 1 u
theorem B8.put2 {W : World} {g : Nat} {t : TypeId} {v0 v1 v2 v3 v4 v5 v6 v7 : Value} (h : B8 W g t v0 v1 v2 v3 v4 v5 v6 v7) (u : Value) : B8 (W.setCell ⟨g, 2, none⟩ u) g t v0 v1 u v3 v4 v5 v6 v7 := heap_put h 2 u
theorem B8.put3 {W : World} {g : Nat} {t : TypeId} {v0 v1 v2 v3 v4 v5 v6 v7 : Value} (h : B8 W g t v0 v1 v2 v3 v4 v5 v6 v7) (u : Value) : B8 (W.setCell ⟨g, 3, none⟩ u) g t v0 v1 v2 u v4 v5 v6 v7 := heap_put h 3 u
theorem B8.put4 {W : World} {g : Nat} {t : TypeId} {v0 v1 v2 v3 v4 v5 v6 v7 : Value} (h : B8 W g t v0 v1 v2 v3 v4 v5 v6 v7) (u : Value) : B8 (W.setCell ⟨g, 4, none⟩ u) g t v0 v1 v2 v3 u v5 v6 v7 := heap_put h 4 u
theorem B8.put5 {W : World} {g : Nat} {t : TypeId} {v0 v1 v2 v3 v4 v5 v6 v7 : Value} (h : B8 W g t v0 v1 v2 v3 v4 v5 v6 v7) (u : Value) : B8 (W.setCell ⟨g, 5, none⟩ u) g t v0 v1 v2 v3 v4 u v6 v7 := heap_put h 5 u
theorem B8.put6 {W : World} {g : Nat} {t : TypeId} {v0 v1 v2 v3 v4 v5 v6 v7 : Value} (h : B8 W g t v0 v1 v2 v3 v4 v5 v6 v7) (u : Value) : B8 (W.setCell ⟨g, 6, none⟩ u) g t v0 v1 v2 v3 v4 v5 u v7 := heap_put h 6 u
theorem B8.put7 {W : World} {g : Nat} {t : TypeId} {v0 v1 v2 v3 v4 v5 v6 v7 : Value} (h : B8 W g t v0 v1 v2 v3 v4 v5 v6 v7) (u : Value) : B8 (W.setCell ⟨g, 7, none⟩ u) g t v0 v1 v2 v3 v4 v5 v6 u := heap_put h 7 u
/-- A store is stored into a block of eight cells. -/
def putS (W : World) (H : Nat) (x : SA) (s : St) : World :=
  (((((((W.setCell ⟨H, 0, none⟩ (.slice x.A s.rows.length x.a)).setCell ⟨H, 1, none⟩ (.slice x.R s.sp.refs.length x.r)).setCell ⟨H, 2, none⟩ (.slice x.L s.sp.last.length x.l)).setCell ⟨H, 3, none⟩ (.int .i64 s.txg)).setCell ⟨H, 4, none⟩ (.slice x.G s.gone.length x.g)).setCell ⟨H, 5, none⟩ (.int .i64 s.keep)).setCell ⟨H, 6, none⟩ (.slice x.D s.dead.length x.d)).setCell ⟨H, 7, none⟩ (.bool s.same)
theorem putS_size (W : World) (H : Nat) (x : SA) (s : St) : (putS W H x s).heap.size = W.heap.size := by simp only [putS, size_set]
theorem putS_own {W : World} {H base top : Nat} {x y : SA} {s u : St} (h : Own W base top (rows5 y u)) (hH : H < base) : Own (putS W H x s) base top (rows5 y u) :=
  (((((((h.set hH _).set hH _).set hH _).set hH _).set hH _).set hH _).set hH _).set hH _
theorem putS_bel {W w : World} {B H : Nat} {x : SA} {s : St} (h : Below B w W) (hH : B ≤ H) : Below B w (putS W H x s) :=
  (((((((h.setCell hH _).setCell hH _).setCell hH _).setCell hH _).setCell hH _).setCell hH _).setCell hH _).setCell hH _
theorem putS_box {W : World} {H : Nat} {t : TypeId} {v0 v1 v2 v3 v4 v5 v6 v7 : Value} (h : B8 W H t v0 v1 v2 v3 v4 v5 v6 v7) (x : SA) (s : St) : B8 (putS W H x s) H t (.slice x.A s.rows.length x.a) (.slice x.R s.sp.refs.length x.r) (.slice x.L s.sp.last.length x.l) (.int .i64 s.txg) (.slice x.G s.gone.length x.g) (.int .i64 s.keep) (.slice x.D s.dead.length x.d) (.bool s.same) :=
  (((((((h.put0 _).put1 _).put2 _).put3 _).put4 _).put5 _).put6 _).put7 _
theorem putS_far {W : World} {H g : Nat} {t : TypeId} {v0 v1 v2 v3 v4 v5 v6 v7 : Value} (h : B8 W g t v0 v1 v2 v3 v4 v5 v6 v7) (hg : g ≠ H) (x : SA) (s : St) : B8 (putS W H x s) g t v0 v1 v2 v3 v4 v5 v6 v7 :=
  (((((((h.set hg _).set hg _).set hg _).set hg _).set hg _).set hg _).set hg _).set hg _
/-- .. and so it is returned. -/
structure Fin8 (w : World) (H : Nat) (x : SA) (s : St) (W : World) : Prop where
  box : B8 W H 28 (.slice x.A s.rows.length x.a) (.slice x.R s.sp.refs.length x.r) (.slice x.L s.sp.last.length x.l) (.int .i64 s.txg) (.slice x.G s.gone.length x.g) (.int .i64 s.keep) (.slice x.D s.dead.length x.d) (.bool s.same)
  own : Own W w.heap.size W.heap.size (rows5 x s)
  bel : Below w.heap.size w W
theorem Fin8.mk2 {w W : World} {H base top : Nat} {x : SA} {s : St} {t0 t1 t2 t3 t4 t5 t6 t7 : Value} (h : B8 W H 28 t0 t1 t2 t3 t4 t5 t6 t7) (hH : H < base) (hw : w.heap.size ≤ H) (ho : Own W base top (rows5 x s)) (hb : Below w.heap.size w W) : Fin8 w H x s (putS W H x s) :=
  ⟨putS_box h x s, (putS_own ho hH).at_top.base (by omega), putS_bel hb hw⟩
/-- The first row, the space's two, and those of the pointers. -/
theorem own_five {w : World} {base m1 m2 m3 top : Nat} {x : SA} {s : St} (h1 : Own w base m1 [⟨9, 1, s.rows.length, .slice x.A s.rows.length x.a, strCells s.rows⟩])
    (h2 : Own w m1 m2 [⟨3, 1, s.sp.refs.length, .slice x.R s.sp.refs.length x.r, intCells s.sp.refs⟩, ⟨3, 1, s.sp.last.length, .slice x.L s.sp.last.length x.l, intCells s.sp.last⟩])
    (h3 : Own w m2 m3 [⟨45, 5, s.gone.length, .slice x.G s.gone.length x.g, flat s.gone⟩]) (h4 : Own w m3 top [⟨45, 5, s.dead.length, .slice x.D s.dead.length x.d, flat s.dead⟩])
    (k0 : base ≤ m1) (k1 : m1 ≤ m2) (k2 : m2 ≤ m3) (k3 : m3 ≤ top) : Own w base top (rows5 x s) :=
  ((h1.more h2 (Nat.le_refl _) k0 k1).more h3 (Nat.le_refl _) (Nat.le_trans k0 k1) k2).more h4 (Nat.le_refl _) (Nat.le_trans (Nat.le_trans k0 k1) k2) k3
theorem SpOwn.two {w : World} {base : Nat} {A B : Option Addr} {c e : Nat} {s : Sp} (h : SpOwn w base (.agg #[.slice A s.refs.length c, .slice B s.last.length e]) s) :
    Own w base w.heap.size [⟨3, 1, s.refs.length, .slice A s.refs.length c, intCells s.refs⟩, ⟨3, 1, s.last.length, .slice B s.last.length e, intCells s.last⟩] := by
  obtain ⟨u1, u2, e0, h1, h2, hne⟩ := h
  simp only [Value.agg.injEq, Array.mk.injEq, List.cons.injEq, and_true] at e0
  obtain ⟨rfl, rfl⟩ := e0
  refine ⟨fun r hr => ?_, List.pairwise_pair.2 hne⟩
  simp only [List.mem_cons, List.not_mem_nil, or_false] at hr
  rcases hr with rfl | rfl
  · exact ⟨h1, fun k hk => (h1.lt k hk).2⟩
  · exact ⟨h2, fun k hk => (h2.lt k hk).2⟩

set_option maxRecDepth 100000 in
set_option maxHeartbeats 4000000 in
theorem to_store (x : SA) (s : St) (w : World) (hs : SBulk s) (hA : StAt w x s) : Calls Try.prog 18 #[(.agg #[.slice x.A s.rows.length x.a, .slice x.R s.sp.refs.length x.r, .slice x.L s.sp.last.length x.l, .int .i64 s.txg, .slice x.G s.gone.length x.g, .int .i64 s.keep, .slice x.D s.dead.length x.d, .bool s.same])] w (TPost s w) := by
  obtain ⟨W0, hW0⟩ : ∃ W, W = ((w.alloc (.cells #[.slice x.A s.rows.length x.a, .slice x.R s.sp.refs.length x.r, .slice x.L s.sp.last.length x.l, .int .i64 s.txg, .slice x.G s.gone.length x.g, .int .i64 s.keep, .slice x.D s.dead.length x.d, .bool s.same] 36)).alloc (.cells #[.slice none 0 0, .slice none 0 0, .slice none 0 0, .int .i64 0, .slice none 0 0, .int .i64 0, .slice none 0 0, .bool false] 28)).alloc (.cells #[.slice none 0 0, .slice none 0 0, .slice none 0 0, .int .i64 0, .slice none 0 0, .int .i64 0, .slice none 0 0, .bool false] 28) := ⟨_, rfl⟩
  have a0 := ((B8.new w 36 (.slice x.A s.rows.length x.a) (.slice x.R s.sp.refs.length x.r) (.slice x.L s.sp.last.length x.l) (.int .i64 s.txg) (.slice x.G s.gone.length x.g) (.int .i64 s.keep) (.slice x.D s.dead.length x.d) (.bool s.same)).alloc (.cells #[.slice none 0 0, .slice none 0 0, .slice none 0 0, .int .i64 0, .slice none 0 0, .int .i64 0, .slice none 0 0, .bool false] 28)).alloc (.cells #[.slice none 0 0, .slice none 0 0, .slice none 0 0, .int .i64 0, .slice none 0 0, .int .i64 0, .slice none 0 0, .bool false] 28)
  have b0 := (B8.new (w.alloc (.cells #[.slice x.A s.rows.length x.a, .slice x.R s.sp.refs.length x.r, .slice x.L s.sp.last.length x.l, .int .i64 s.txg, .slice x.G s.gone.length x.g, .int .i64 s.keep, .slice x.D s.dead.length x.d, .bool s.same] 36)) 28 (.slice none 0 0) (.slice none 0 0) (.slice none 0 0) (.int .i64 0) (.slice none 0 0) (.int .i64 0) (.slice none 0 0) (.bool false)).alloc (.cells #[.slice none 0 0, .slice none 0 0, .slice none 0 0, .int .i64 0, .slice none 0 0, .int .i64 0, .slice none 0 0, .bool false] 28)
  have c0 := B8.new ((w.alloc (.cells #[.slice x.A s.rows.length x.a, .slice x.R s.sp.refs.length x.r, .slice x.L s.sp.last.length x.l, .int .i64 s.txg, .slice x.G s.gone.length x.g, .int .i64 s.keep, .slice x.D s.dead.length x.d, .bool s.same] 36)).alloc (.cells #[.slice none 0 0, .slice none 0 0, .slice none 0 0, .int .i64 0, .slice none 0 0, .int .i64 0, .slice none 0 0, .bool false] 28)) 28 (.slice none 0 0) (.slice none 0 0) (.slice none 0 0) (.int .i64 0) (.slice none 0 0) (.int .i64 0) (.slice none 0 0) (.bool false)
  have BB : Below w.heap.size w (((w.alloc (.cells #[.slice x.A s.rows.length x.a, .slice x.R s.sp.refs.length x.r, .slice x.L s.sp.last.length x.l, .int .i64 s.txg, .slice x.G s.gone.length x.g, .int .i64 s.keep, .slice x.D s.dead.length x.d, .bool s.same] 36)).alloc (.cells #[.slice none 0 0, .slice none 0 0, .slice none 0 0, .int .i64 0, .slice none 0 0, .int .i64 0, .slice none 0 0, .bool false] 28)).alloc (.cells #[.slice none 0 0, .slice none 0 0, .slice none 0 0, .int .i64 0, .slice none 0 0, .int .i64 0, .slice none 0 0, .bool false] 28)) := bel_new (bel_new (bel_new (Below.refl _ _) _) _) _
  have sz : (((w.alloc (.cells #[.slice x.A s.rows.length x.a, .slice x.R s.sp.refs.length x.r, .slice x.L s.sp.last.length x.l, .int .i64 s.txg, .slice x.G s.gone.length x.g, .int .i64 s.keep, .slice x.D s.dead.length x.d, .bool s.same] 36)).alloc (.cells #[.slice none 0 0, .slice none 0 0, .slice none 0 0, .int .i64 0, .slice none 0 0, .int .i64 0, .slice none 0 0, .bool false] 28)).alloc (.cells #[.slice none 0 0, .slice none 0 0, .slice none 0 0, .int .i64 0, .slice none 0 0, .int .i64 0, .slice none 0 0, .bool false] 28)).heap.size = w.heap.size + 3 := by simp
  simp only [World.size_alloc] at b0 c0
  rw [← hW0] at a0 b0 c0 BB sz
  have hS := fun W (hW : Below w.heap.size w W) => Sx.to_strs x.A x.a s.rows W hs.rows (hA.rows.below hW)
  have hT := fun W (hW : Below w.heap.size w W) => to_space x.R x.L x.r x.l s.sp W hs.refs hs.last (hA.sp.below hW)
  have hG := fun W (hW : Below w.heap.size w W) => to_ptrs x.G x.g s.gone W hs.gone (hA.gone.below hW)
  have hD := fun W (hW : Below w.heap.size w W) => to_ptrs x.D x.d s.dead W hs.dead (hA.dead.below hW)
  have L := hS W0 BB
  obtain ⟨x0, x1, x2, x3, x4, x5, x6, x7⟩ := a0.cells
  obtain ⟨y0, y1, y2, y3, y4, y5, y6, y7⟩ := c0.cells
  obtain ⟨f0, f1, f2, f3, f4, f5, f6, f7⟩ := c0.fro
  clear hS hs hA
  subst hW0
  go_enter Try.func18, Try.ntmps18
  go_wp2_with (go_at_call 52; refine L.mono ?_; rintro r w2 ⟨g, rfl, ho, hb2⟩; refine Hid.out ?_)
  refine Lib.hid ?_
  have P1 := Own.one ho
  rw [sz] at P1
  have s2 := hb2.size
  rw [sz] at s2
  have BB := bel_then BB hb2
  have a1 := a0.below hb2
  have b1 := b0.below hb2
  have c1 := c0.below hb2
  clear a0 b0 c0 L hb2 ho sz x0 x1 x2 x3 x4 x5 x6 x7 y0 y1 y2 y3 y4 y5 y6 y7 f0 f1 f2 f3 f4 f5 f6 f7
  have P1 := P1.set (p := ⟨w.heap.size + 1 + 1, 0, none⟩) (Nat.lt_succ_self _) (.slice (some ⟨g, 0, none⟩) s.rows.length s.rows.length)
  have BB := BB.setCell (p := ⟨w.heap.size + 1 + 1, 0, none⟩) (by show w.heap.size ≤ w.heap.size + 1 + 1; omega) (.slice (some ⟨g, 0, none⟩) s.rows.length s.rows.length)
  have a2 := a1.set (p := ⟨w.heap.size + 1 + 1, 0, none⟩) (by show w.heap.size ≠ w.heap.size + 1 + 1; omega) (.slice (some ⟨g, 0, none⟩) s.rows.length s.rows.length)
  have b2 := b1.set (p := ⟨w.heap.size + 1 + 1, 0, none⟩) (by show w.heap.size + 1 ≠ w.heap.size + 1 + 1; omega) (.slice (some ⟨g, 0, none⟩) s.rows.length s.rows.length)
  have c2 := c1.put0 (.slice (some ⟨g, 0, none⟩) s.rows.length s.rows.length)
  have L := hT _ BB
  obtain ⟨x0, x1, x2, x3, x4, x5, x6, x7⟩ := a1.cells
  obtain ⟨y0, y1, y2, y3, y4, y5, y6, y7⟩ := c1.cells
  obtain ⟨f0, f1, f2, f3, f4, f5, f6, f7⟩ := c1.fro
  go_wp2_with (go_at_call 53; refine L.mono ?_; rintro r w3 ⟨A2, c, B2, e, rfl, ho, hb3⟩; refine Hid.out ?_)
  refine Lib.hid ?_
  have P2 := ho.two
  rw [size_set] at P2
  have P1 := P1.below hb3
  have s3 := hb3.size
  rw [size_set] at s3
  have BB := bel_then BB hb3
  have a3 := a2.below hb3
  have b3 := b2.below hb3
  have c3 := c2.below hb3
  clear a1 b1 c1 a2 b2 c2 L hT hb3 ho x0 x1 x2 x3 x4 x5 x6 x7 y0 y1 y2 y3 y4 y5 y6 y7 f0 f1 f2 f3 f4 f5 f6 f7
  obtain ⟨x0, x1, x2, x3, x4, x5, x6, x7⟩ := a3.cells
  obtain ⟨y0, y1, y2, y3, y4, y5, y6, y7⟩ := c3.cells
  obtain ⟨f0, f1, f2, f3, f4, f5, f6, f7⟩ := c3.fro
  obtain ⟨W3, hW3⟩ : ∃ W, W = ((w3.setCell ⟨w.heap.size + 1 + 1, 1, none⟩ (.slice A2 s.sp.refs.length c)).setCell ⟨w.heap.size + 1 + 1, 2, none⟩ (.slice B2 s.sp.last.length e)).setCell ⟨w.heap.size + 1 + 1, 3, none⟩ (.int .i64 s.txg) := ⟨_, rfl⟩
  have tr : ∀ {W : World} {b t : Nat} {L : List Rw}, Own W b t L → w.heap.size + 3 ≤ b → ∀ u v z : Value, Own (((W.setCell ⟨w.heap.size + 1 + 1, 1, none⟩ u).setCell ⟨w.heap.size + 1 + 1, 2, none⟩ v).setCell ⟨w.heap.size + 1 + 1, 3, none⟩ z) b t L := fun h hb u v z =>
    ((h.set (by show w.heap.size + 1 + 1 < _; omega) u).set (by show w.heap.size + 1 + 1 < _; omega) v).set (by show w.heap.size + 1 + 1 < _; omega) z
  have P1 := tr P1 (by omega) (.slice A2 s.sp.refs.length c) (.slice B2 s.sp.last.length e) (.int .i64 s.txg)
  have P2 := tr P2 (by omega) (.slice A2 s.sp.refs.length c) (.slice B2 s.sp.last.length e) (.int .i64 s.txg)
  have BB := ((BB.setCell (p := ⟨w.heap.size + 1 + 1, 1, none⟩) (by show w.heap.size ≤ w.heap.size + 1 + 1; omega) (.slice A2 s.sp.refs.length c)).setCell (p := ⟨w.heap.size + 1 + 1, 2, none⟩) (by show w.heap.size ≤ w.heap.size + 1 + 1; omega) (.slice B2 s.sp.last.length e)).setCell (p := ⟨w.heap.size + 1 + 1, 3, none⟩) (by show w.heap.size ≤ w.heap.size + 1 + 1; omega) (.int .i64 s.txg)
  have a4 := ((a3.set (p := ⟨w.heap.size + 1 + 1, 1, none⟩) (by show w.heap.size ≠ w.heap.size + 1 + 1; omega) (.slice A2 s.sp.refs.length c)).set (p := ⟨w.heap.size + 1 + 1, 2, none⟩) (by show w.heap.size ≠ w.heap.size + 1 + 1; omega) (.slice B2 s.sp.last.length e)).set (p := ⟨w.heap.size + 1 + 1, 3, none⟩) (by show w.heap.size ≠ w.heap.size + 1 + 1; omega) (.int .i64 s.txg)
  have b4 := ((b3.set (p := ⟨w.heap.size + 1 + 1, 1, none⟩) (by show w.heap.size + 1 ≠ w.heap.size + 1 + 1; omega) (.slice A2 s.sp.refs.length c)).set (p := ⟨w.heap.size + 1 + 1, 2, none⟩) (by show w.heap.size + 1 ≠ w.heap.size + 1 + 1; omega) (.slice B2 s.sp.last.length e)).set (p := ⟨w.heap.size + 1 + 1, 3, none⟩) (by show w.heap.size + 1 ≠ w.heap.size + 1 + 1; omega) (.int .i64 s.txg)
  have c4 := ((c3.put1 (.slice A2 s.sp.refs.length c)).put2 (.slice B2 s.sp.last.length e)).put3 (.int .i64 s.txg)
  have z3 : W3.heap.size = w3.heap.size := by rw [hW3]; simp [size_set]
  have P2 := P2.wide (Nat.le_of_eq z3.symm)
  rw [← hW3] at P1 P2 BB a4 b4 c4
  have L := hG _ BB
  subst hW3
  clear a3 b3 c3 hG tr
  go_wp2_with (go_at_call 54; refine L.mono ?_; rintro r w4 ⟨gg, rfl, ho, hb4⟩; refine Hid.out ?_)
  refine Lib.hid ?_
  have P3 := Own.one ho
  have P1 := P1.below hb4
  have P2 := P2.below hb4
  have s4 := hb4.size
  rw [z3] at s4
  rw [z3] at P3 P2
  have BB := bel_then BB hb4
  have a5 := a4.below hb4
  have b5 := b4.below hb4
  have c5 := c4.below hb4
  clear a4 b4 c4 L hb4 ho z3 x0 x1 x2 x3 x4 x5 x6 x7 y0 y1 y2 y3 y4 y5 y6 y7 f0 f1 f2 f3 f4 f5 f6 f7
  obtain ⟨x0, x1, x2, x3, x4, x5, x6, x7⟩ := a5.cells
  obtain ⟨y0, y1, y2, y3, y4, y5, y6, y7⟩ := c5.cells
  obtain ⟨f0, f1, f2, f3, f4, f5, f6, f7⟩ := c5.fro
  obtain ⟨W4, hW4⟩ : ∃ W, W = (w4.setCell ⟨w.heap.size + 1 + 1, 4, none⟩ (.slice (some ⟨gg, 0, none⟩) s.gone.length s.gone.length)).setCell ⟨w.heap.size + 1 + 1, 5, none⟩ (.int .i64 s.keep) := ⟨_, rfl⟩
  have tr : ∀ {W : World} {b t : Nat} {L : List Rw}, Own W b t L → w.heap.size + 3 ≤ b → ∀ u v : Value, Own ((W.setCell ⟨w.heap.size + 1 + 1, 4, none⟩ u).setCell ⟨w.heap.size + 1 + 1, 5, none⟩ v) b t L := fun h hb u v =>
    (h.set (by show w.heap.size + 1 + 1 < _; omega) u).set (by show w.heap.size + 1 + 1 < _; omega) v
  have P1 := tr P1 (by omega) (.slice (some ⟨gg, 0, none⟩) s.gone.length s.gone.length) (.int .i64 s.keep)
  have P2 := tr P2 (by omega) (.slice (some ⟨gg, 0, none⟩) s.gone.length s.gone.length) (.int .i64 s.keep)
  have P3 := tr P3 (by omega) (.slice (some ⟨gg, 0, none⟩) s.gone.length s.gone.length) (.int .i64 s.keep)
  have BB := (BB.setCell (p := ⟨w.heap.size + 1 + 1, 4, none⟩) (by show w.heap.size ≤ w.heap.size + 1 + 1; omega) (.slice (some ⟨gg, 0, none⟩) s.gone.length s.gone.length)).setCell (p := ⟨w.heap.size + 1 + 1, 5, none⟩) (by show w.heap.size ≤ w.heap.size + 1 + 1; omega) (.int .i64 s.keep)
  have a6 := (a5.set (p := ⟨w.heap.size + 1 + 1, 4, none⟩) (by show w.heap.size ≠ w.heap.size + 1 + 1; omega) (.slice (some ⟨gg, 0, none⟩) s.gone.length s.gone.length)).set (p := ⟨w.heap.size + 1 + 1, 5, none⟩) (by show w.heap.size ≠ w.heap.size + 1 + 1; omega) (.int .i64 s.keep)
  have b6 := (b5.set (p := ⟨w.heap.size + 1 + 1, 4, none⟩) (by show w.heap.size + 1 ≠ w.heap.size + 1 + 1; omega) (.slice (some ⟨gg, 0, none⟩) s.gone.length s.gone.length)).set (p := ⟨w.heap.size + 1 + 1, 5, none⟩) (by show w.heap.size + 1 ≠ w.heap.size + 1 + 1; omega) (.int .i64 s.keep)
  have c6 := (c5.put4 (.slice (some ⟨gg, 0, none⟩) s.gone.length s.gone.length)).put5 (.int .i64 s.keep)
  have z4 : W4.heap.size = w4.heap.size := by rw [hW4]; simp [size_set]
  rw [← hW4] at P1 P2 P3 BB a6 b6 c6
  have L := hD _ BB
  subst hW4
  clear a5 b5 c5 hD tr
  go_wp2_with (go_at_call 54; refine L.mono ?_; rintro r w5 ⟨gd, rfl, ho, hb5⟩; refine Hid.out ?_)
  refine Lib.hid ?_
  have P4 := Own.one ho
  have P1 := P1.below hb5
  have P2 := P2.below hb5
  have P3 := P3.below hb5
  have s5 := hb5.size
  rw [z4] at s5
  rw [z4] at P4
  have BB := bel_then BB hb5
  have a7 := a6.below hb5
  have b7 := b6.below hb5
  have c7 := c6.below hb5
  clear a6 b6 c6 L hb5 ho z4 x0 x1 x2 x3 x4 x5 x6 x7 y0 y1 y2 y3 y4 y5 y6 y7 f0 f1 f2 f3 f4 f5 f6 f7
  obtain ⟨x0, x1, x2, x3, x4, x5, x6, x7⟩ := a7.cells
  obtain ⟨y0, y1, y2, y3, y4, y5, y6, y7⟩ := c7.cells
  obtain ⟨f0, f1, f2, f3, f4, f5, f6, f7⟩ := c7.fro
  obtain ⟨g0, g1, g2, g3, g4, g5, g6, g7⟩ := b7.fro
  obtain ⟨q0, q1, q2, q3, q4, q5, q6, q7⟩ := b7.cells
  have OW := own_five (x := ⟨some ⟨g, 0, none⟩, s.rows.length, A2, c, B2, e, some ⟨gg, 0, none⟩, s.gone.length, some ⟨gd, 0, none⟩, s.dead.length⟩) P1 P2 P3 P4 s2 s3 s4 s5
  have FN := Fin8.mk2 ((b7.set (p := ⟨w.heap.size + 1 + 1, 6, none⟩) (by show w.heap.size + 1 ≠ w.heap.size + 1 + 1; omega) (.slice (some ⟨gd, 0, none⟩) s.dead.length s.dead.length)).set (p := ⟨w.heap.size + 1 + 1, 7, none⟩) (by show w.heap.size + 1 ≠ w.heap.size + 1 + 1; omega) (.bool s.same)) (by omega) (by omega) ((OW.set (p := ⟨w.heap.size + 1 + 1, 6, none⟩) (Nat.lt_succ_self _) (.slice (some ⟨gd, 0, none⟩) s.dead.length s.dead.length)).set (p := ⟨w.heap.size + 1 + 1, 7, none⟩) (Nat.lt_succ_self _) (.bool s.same)) ((BB.setCell (p := ⟨w.heap.size + 1 + 1, 6, none⟩) (by show w.heap.size ≤ w.heap.size + 1 + 1; omega) (.slice (some ⟨gd, 0, none⟩) s.dead.length s.dead.length)).setCell (p := ⟨w.heap.size + 1 + 1, 7, none⟩) (by show w.heap.size ≤ w.heap.size + 1 + 1; omega) (.bool s.same))
  have HF := Lib.hid FN
  clear P1 P2 P3 P4 OW BB a7 b7 c7 s2 s3 s4 s5 FN
  go_wp2_with fail
  change bodyPost Try.prog Try.f18 (TPost s w) Exit.ret _ (putS ((w5.setCell ⟨w.heap.size + 1 + 1, 6, none⟩ (.slice (some ⟨gd, 0, none⟩) s.dead.length s.dead.length)).setCell ⟨w.heap.size + 1 + 1, 7, none⟩ (.bool s.same)) (w.heap.size + 1) ⟨some ⟨g, 0, none⟩, s.rows.length, A2, c, B2, e, some ⟨gg, 0, none⟩, s.gone.length, some ⟨gd, 0, none⟩, s.dead.length⟩ s)
  have HF := HF.out
  generalize putS _ _ _ _ = WF at HF ⊢
  clear x0 x1 x2 x3 x4 x5 x6 x7 y0 y1 y2 y3 y4 y5 y6 y7 f0 f1 f2 f3 f4 f5 f6 f7 g0 g1 g2 g3 g4 g5 g6 g7 q0 q1 q2 q3 q4 q5 q6 q7
  obtain ⟨⟨q0, q1, q2, q3, q4, q5, q6, q7⟩, ho, hb⟩ := (⟨HF.box.cells, HF.own, HF.bel⟩ : _ ∧ _ ∧ _)
  exact bodyPost_ret (v := .agg #[.slice (some ⟨g, 0, none⟩) s.rows.length s.rows.length, .slice A2 s.sp.refs.length c, .slice B2 s.sp.last.length e, .int .i64 s.txg, .slice (some ⟨gg, 0, none⟩) s.gone.length s.gone.length, .int .i64 s.keep, .slice (some ⟨gd, 0, none⟩) s.dead.length s.dead.length, .bool s.same]) (by simp [results, Try.f18, go_sem, q0, q1, q2, q3, q4, q5, q6, q7]) rfl ⟨_, rfl, ho, hb⟩
end Go.Proofs.Ytmnamclndpfjnaa
