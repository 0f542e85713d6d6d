/-
  A store in memory: where its rows lie, its weight, a copy, whether two are equal.
-/
import Derived.Test.YtmnamclndpfjnaaPts
import Derived.Test.YtmnamclndpfjnaaMemA
import Derived.Test.YtmnamclndpfjnaaStr
import Derived.Test.YtmnamclndpfjnaaSto
namespace Go.Proofs.Ytmnamclndpfjnaa
open Go.RowKit

/-- Where a store's rows lie. -/
structure SA where
  A : Option Addr
  a : Nat
  R : Option Addr
  r : Nat
  L : Option Addr
  l : Nat
  G : Option Addr
  g : Nat
  D : Option Addr
  d : Nat
def SA.none : SA := ⟨.none, 0, .none, 0, .none, 0, .none, 0, .none, 0⟩
def rows5 (x : SA) (s : St) : List Rw :=
  [⟨9, 1, s.rows.length, .slice x.A s.rows.length x.a, strCells s.rows⟩, ⟨3, 1, s.sp.refs.length, .slice x.R s.sp.refs.length x.r, intCells s.sp.refs⟩, ⟨3, 1, s.sp.last.length, .slice x.L s.sp.last.length x.l, intCells s.sp.last⟩,
   ⟨45, 5, s.gone.length, .slice x.G s.gone.length x.g, flat s.gone⟩, ⟨45, 5, s.dead.length, .slice x.D s.dead.length x.d, flat s.dead⟩]
/-- A store behind its addresses. -/
structure StAt (w : World) (x : SA) (s : St) : Prop where
  rows : Lies w x.A (strCells s.rows)
  sp : SpAt w x.R x.L s.sp
  gone : PArg w x.G s.gone
  dead : PArg w x.D s.dead
theorem StAt.below {w w' : World} {x : SA} {s : St} (h : StAt w x s) (hb : Below w.heap.size w w') : StAt w' x s := ⟨h.rows.below hb, h.sp.below hb, h.gone.below hb, h.dead.below hb⟩
theorem own_parg {w : World} {base n c : Nat} {A : Option Addr} {ps : List P5} (h : w.ownsRow base 45 5 (.slice A ps.length c) n (flat ps)) : PArg w A ps := by
  intro h0
  have hn : n = ps.length := by have := h.1; rw [flat_len] at this; omega
  subst hn
  obtain ⟨g, rfl⟩ := own_addr h h0
  refine ⟨g, 0, rfl, (h.lt g rfl).2, fun j hj k v hk hv => ?_⟩
  rw [Nat.zero_add, h.cellAt (j * 5 + k) (by omega), show j * 5 + k = 5 * j + k by omega, flat_at ps j k hj hk, hv]
theorem Own.at5 {w : World} {base top : Nat} {x : SA} {s : St} (h : Own w base top (rows5 x s)) : StAt w x s :=
  ⟨row_lies (h.row 0 (by simp [rows5])), ⟨row_lies (h.row 1 (by simp [rows5])), row_lies (h.row 2 (by simp [rows5]))⟩, own_parg (h.row 3 (by simp [rows5])), own_parg (h.row 4 (by simp [rows5]))⟩
/-- A store as an argument. -/
structure SBulk (s : St) : Prop where
  rows : s.rows.length ≤ 1048576
  refs : s.sp.refs.length ≤ 1048576
  last : s.sp.last.length ≤ 1048576
  gone : s.gone.length ≤ 1048576
  dead : s.dead.length ≤ 1048576
  texts : ∀ t ∈ s.rows, t.size ≤ maxLen
  txg : (Lit.int .i64 s.txg).wf = true
  keep : (Lit.int .i64 s.keep).wf = true
  nums : ∀ p ∈ s.gone ++ s.dead, (Lit.int .i64 p.a).wf = true

/-- A store is returned, in memory of the call's own. -/
def TPost (s : St) (w : World) (r : Ending) (w' : World) : Prop :=
  ∃ x : SA, r = .returned (.agg #[.slice x.A s.rows.length x.a, .slice x.R s.sp.refs.length x.r, .slice x.L s.sp.last.length x.l, .int .i64 s.txg, .slice x.G s.gone.length x.g, .int .i64 s.keep, .slice x.D s.dead.length x.d, .bool s.same]) ∧ Own w' w.heap.size w'.heap.size (rows5 x s) ∧ Below w.heap.size w w'
def TPost2 (s : St) (b : Bool) (w : World) (r : Ending) (w' : World) : Prop :=
  ∃ x : SA, r = .returned (.tuple #[(.agg #[.slice x.A s.rows.length x.a, .slice x.R s.sp.refs.length x.r, .slice x.L s.sp.last.length x.l, .int .i64 s.txg, .slice x.G s.gone.length x.g, .int .i64 s.keep, .slice x.D s.dead.length x.d, .bool s.same]), .bool b]) ∧ Own w' w.heap.size w'.heap.size (rows5 x s) ∧ Below w.heap.size w w'
def TPost3 (s : St) (p : P5) (b : Bool) (w : World) (r : Ending) (w' : World) : Prop :=
  ∃ x : SA, r = .returned (.tuple #[(.agg #[.slice x.A s.rows.length x.a, .slice x.R s.sp.refs.length x.r, .slice x.L s.sp.last.length x.l, .int .i64 s.txg, .slice x.G s.gone.length x.g, .int .i64 s.keep, .slice x.D s.dead.length x.d, .bool s.same]), .agg #[.int .i64 p.a, .int .i64 p.b, .int .i64 p.c, .int .i64 p.d, .int .i64 p.e], .bool b]) ∧ Own w' w.heap.size w'.heap.size (rows5 x s) ∧ Below w.heap.size w w'
theorem own_none (w : World) (base top : Nat) : Own w base top (rows5 SA.none noSt) := by
  refine ⟨fun r hr => ?_, ?_⟩
  · simp only [rows5, List.mem_cons, List.not_mem_nil, or_false] at hr
    rcases hr with rfl | rfl | rfl | rfl | rfl <;> exact ⟨⟨rfl, .inl ⟨rfl, rfl⟩⟩, fun k hk => by cases hk⟩
  · refine List.pairwise_iff_getElem.2 fun i j hi hj hij k hk => ?_
    have : ∀ r ∈ rows5 SA.none noSt, r.v.ownBlock = .none := by
      intro r hr
      simp only [rows5, List.mem_cons, List.not_mem_nil, or_false] at hr
      rcases hr with rfl | rfl | rfl | rfl | rfl <;> rfl
    rw [this _ (List.getElem_mem hi)] at hk
    cases hk

/-- A block of eight cells. -/
def B8 (W : World) (g : Nat) (t : TypeId) (v0 v1 v2 v3 v4 v5 v6 v7 : Value) : Prop := W.heap[g]? = some (.cells #[v0, v1, v2, v3, v4, v5, v6, v7] t (0, 0))
theorem B8.new (w : World) (t : TypeId) (v0 v1 v2 v3 v4 v5 v6 v7 : Value) : B8 (w.alloc (.cells #[v0, v1, v2, v3, v4, v5, v6, v7] t)) w.heap.size t v0 v1 v2 v3 v4 v5 v6 v7 := heap_alloc_new w _
section
variable {W W' : World} {g : Nat} {t : TypeId} {v0 v1 v2 v3 v4 v5 v6 v7 : Value}
theorem B8.lt (h : B8 W g t v0 v1 v2 v3 v4 v5 v6 v7) : g < W.heap.size := (Array.getElem?_eq_some_iff.1 h).1
theorem B8.below (h : B8 W g t v0 v1 v2 v3 v4 v5 v6 v7) (hb : Below W.heap.size W W') : B8 W' g t v0 v1 v2 v3 v4 v5 v6 v7 := (hb.block g h.lt).trans h
theorem B8.belowB {B : Nat} (h : B8 W g t v0 v1 v2 v3 v4 v5 v6 v7) (hb : Below B W W') (hg : g < B) : B8 W' g t v0 v1 v2 v3 v4 v5 v6 v7 := (hb.block g hg).trans h
theorem B8.alloc (h : B8 W g t v0 v1 v2 v3 v4 v5 v6 v7) (o : Obj) : B8 (W.alloc o) g t v0 v1 v2 v3 v4 v5 v6 v7 := (Below.heap_alloc W o g h.lt).trans h
theorem B8.drew (h : B8 W g t v0 v1 v2 v3 v4 v5 v6 v7) : B8 W.drew g t v0 v1 v2 v3 v4 v5 v6 v7 := h
theorem B8.set (h : B8 W g t v0 v1 v2 v3 v4 v5 v6 v7) {p : Addr} (hp : g ≠ p.block) (u : Value) : B8 (W.setCell p u) g t v0 v1 v2 v3 v4 v5 v6 v7 := (Below.heap_setCell W p u g hp).trans h
theorem B8.grown (h : B8 W g t v0 v1 v2 v3 v4 v5 v6 v7) {r : Option Nat} (hg : W.grownBy W' r) (hr : some g ≠ r) : B8 W' g t v0 v1 v2 v3 v4 v5 v6 v7 := (hg.block g h.lt hr).trans h
theorem B8.only {lo hi : Nat} (h : B8 W g t v0 v1 v2 v3 v4 v5 v6 v7) (hg : Only lo hi W W') (hn : ¬ (lo ≤ g ∧ g < hi)) : B8 W' g t v0 v1 v2 v3 v4 v5 v6 v7 := (hg.block g h.lt hn).trans h
theorem B8.cell (h : B8 W g t v0 v1 v2 v3 v4 v5 v6 v7) (i : Nat) : W.cell? ⟨g, i, none⟩ = (#[v0, v1, v2, v3, v4, v5, v6, v7] : Array Value)[i]? ∧ W.frozen? ⟨g, i, none⟩ = false := by
  have h' : W.heap[g]? = some (.cells #[v0, v1, v2, v3, v4, v5, v6, v7] t (0, 0)) := h
  exact ⟨by simp [World.cell?, h'], by simp [World.frozen?, h']⟩
theorem B8.cells (h : B8 W g t v0 v1 v2 v3 v4 v5 v6 v7) : (W.cell? ⟨g, 0, none⟩ = some v0 ∧ W.cell? ⟨g, 1, none⟩ = some v1 ∧ W.cell? ⟨g, 2, none⟩ = some v2 ∧ W.cell? ⟨g, 3, none⟩ = some v3 ∧ W.cell? ⟨g, 4, none⟩ = some v4 ∧ W.cell? ⟨g, 5, none⟩ = some v5 ∧ W.cell? ⟨g, 6, none⟩ = some v6 ∧ W.cell? ⟨g, 7, none⟩ = some v7) :=
  ⟨(h.cell 0).1, (h.cell 1).1, (h.cell 2).1, (h.cell 3).1, (h.cell 4).1, (h.cell 5).1, (h.cell 6).1, (h.cell 7).1⟩
theorem B8.fro (h : B8 W g t v0 v1 v2 v3 v4 v5 v6 v7) : (W.frozen? ⟨g, 0, none⟩ = false ∧ W.frozen? ⟨g, 1, none⟩ = false ∧ W.frozen? ⟨g, 2, none⟩ = false ∧ W.frozen? ⟨g, 3, none⟩ = false ∧ W.frozen? ⟨g, 4, none⟩ = false ∧ W.frozen? ⟨g, 5, none⟩ = false ∧ W.frozen? ⟨g, 6, none⟩ = false ∧ W.frozen? ⟨g, 7, none⟩ = false) :=
  ⟨(h.cell 0).2, (h.cell 1).2, (h.cell 2).2, (h.cell 3).2, (h.cell 4).2, (h.cell 5).2, (h.cell 6).2, (h.cell 7).2⟩
end

structure SzOk (s : St) (L : Int) (z : Int) : Prop where
  sum : 0 ≤ z → ((s.rows.length + s.sp.refs.length + s.sp.last.length + s.gone.length + s.dead.length : Nat) : Int) ≤ L - z
def SzP (s : St) (L : Int) (w : World) (e : Ending) (w' : World) : Prop := ∃ z : Int, e = .returned (.int .i64 z) ∧ Below w.heap.size w w' ∧ SzOk s L z

set_option maxRecDepth 100000 in
set_option maxHeartbeats 2000000 in
theorem sz_store (x : SA) (s : St) (L : Int) (w : World) (hL0 : 0 ≤ L) (hL : L ≤ 1048576) (h1 : s.rows.length ≤ maxLen) (h2 : s.sp.refs.length ≤ maxLen) (h3 : s.sp.last.length ≤ maxLen) (h4 : s.gone.length ≤ maxLen) (h5 : s.dead.length ≤ maxLen) (ht : ∀ t ∈ s.rows, t.size ≤ maxLen) (hA : Lies w x.A (strCells s.rows)) :
    Calls Try.prog 16 #[(.agg #[.slice x.A s.rows.length x.a, .slice x.R s.sp.refs.length x.r, .slice x.L s.sp.last.length x.l, .int .i64 s.txg, .slice x.G s.gone.length x.g, .int .i64 s.keep, .slice x.D s.dead.length x.d, .bool s.same]), .int .i64 L] w (SzP s L w) := by
  have b0 := B8.new w 36 (.slice x.A s.rows.length x.a) (.slice x.R s.sp.refs.length x.r) (.slice x.L s.sp.last.length x.l) (.int .i64 s.txg) (.slice x.G s.gone.length x.g) (.int .i64 s.keep) (.slice x.D s.dead.length x.d) (.bool s.same)
  have B0 := bel_new (Below.refl w.heap.size w) (.cells #[.slice x.A s.rows.length x.a, .slice x.R s.sp.refs.length x.r, .slice x.L s.sp.last.length x.l, .int .i64 s.txg, .slice x.G s.gone.length x.g, .int .i64 s.keep, .slice x.D s.dead.length x.d, .bool s.same] 36)
  have hS := Sx.sz_strs x.A x.a s.rows L _ hL0 hL h1 ht (hA.below B0)
  have hT := fun L2 W k1 k2 => sz_space x.R x.L x.r x.l s.sp.refs.length s.sp.last.length L2 W k1 k2 h2 h3
  have hG := fun L2 W k1 k2 => sz_ptrL x.G x.g s.gone.length L2 W k1 k2 h4
  have hD := fun L2 W k1 k2 => sz_ptrL x.D x.d s.dead.length L2 W k1 k2 h5
  clear h1 h2 h3 h4 h5 ht hA
  go_enter Try.func16, Try.ntmps16
  go_wp2_with (go_at_call 45; refine hS.mono ?_; rintro r w2 ⟨z, rfl, hb2, hz⟩; refine Hid.out ?_)
  refine Lib.hid ?_
  have B2 := bel_then B0 hb2
  have b2 := b0.below hb2
  clear hS B0 b0 hb2
  obtain ⟨x0, x1, x2, x3, x4, x5, x6, x7⟩ := b2.cells
  by_cases hzz : z < 0
  · go_wp2_with fail
    go_ret
    exact ⟨_, rfl, B2, ⟨fun h => by omega⟩⟩
  have hz := hz (by omega)
  have hT := hT z w2 (by omega) (by omega)
  go_wp2_with (go_at_call 46; refine hT.mono ?_; rintro r w3 ⟨y, rfl, hb3, hy⟩; refine Hid.out ?_)
  refine Lib.hid ?_
  have B3 := bel_then B2 hb3
  have b3 := b2.below hb3
  clear hT B2 b2 hb3 x0 x1 x2 x3 x4 x5 x6 x7
  obtain ⟨x0, x1, x2, x3, x4, x5, x6, x7⟩ := b3.cells
  by_cases hyy : y < 0
  · go_wp2_with fail
    go_ret
    exact ⟨_, rfl, B3, ⟨fun h => by omega⟩⟩
  have hy := hy (by omega)
  have hG := hG y w3 (by omega) (by omega)
  go_wp2_with (go_at_call 47; refine hG.mono ?_; rintro r w4 ⟨u, rfl, hb4, hu⟩; refine Hid.out ?_)
  refine Lib.hid ?_
  have B4 := bel_then B3 hb4
  have b4 := b3.below hb4
  clear hG B3 b3 hb4 x0 x1 x2 x3 x4 x5 x6 x7
  obtain ⟨x0, x1, x2, x3, x4, x5, x6, x7⟩ := b4.cells
  by_cases huu : u < 0
  · go_wp2_with fail
    go_ret
    exact ⟨_, rfl, B4, ⟨fun h => by omega⟩⟩
  have hu := hu (by omega)
  have hD := hD u w4 (by omega) (by omega)
  go_wp2_with (go_at_call 47; refine hD.mono ?_; rintro r w5 ⟨v, rfl, hb5, hv⟩; refine Hid.out ?_)
  refine Lib.hid ?_
  have B5 := bel_then B4 hb5
  clear hD B4 b4 hb5 x0 x1 x2 x3 x4 x5 x6 x7
  by_cases hvv : v < 0
  · go_wp2_with fail
    go_ret
    exact ⟨_, rfl, B5, ⟨fun h => by omega⟩⟩
  have hv := hv (by omega)
  go_wp2_with fail
  go_ret
  exact ⟨_, rfl, B5, ⟨fun h => by omega⟩⟩

set_option maxRecDepth 100000 in
set_option maxHeartbeats 2000000 in
theorem eq_store {x y : SA} {s : St} {b1 t1 b2 t2 : Nat} {w : World} (hs : SBulk s) (h1 : Own w b1 t1 (rows5 x s)) (h2 : Own w b2 t2 (rows5 y s)) :
    Calls Try.prog 13 #[(.agg #[.slice x.A s.rows.length x.a, .slice x.R s.sp.refs.length x.r, .slice x.L s.sp.last.length x.l, .int .i64 s.txg, .slice x.G s.gone.length x.g, .int .i64 s.keep, .slice x.D s.dead.length x.d, .bool s.same]), (.agg #[.slice y.A s.rows.length y.a, .slice y.R s.sp.refs.length y.r, .slice y.L s.sp.last.length y.l, .int .i64 s.txg, .slice y.G s.gone.length y.g, .int .i64 s.keep, .slice y.D s.dead.length y.d, .bool s.same])] w fun e w' => e = .returned (.bool true) ∧ Below w.heap.size w w' := by
  obtain ⟨w0, hw0⟩ : ∃ W, W = (w.alloc (.cells #[.slice x.A s.rows.length x.a, .slice x.R s.sp.refs.length x.r, .slice x.L s.sp.last.length x.l, .int .i64 s.txg, .slice x.G s.gone.length x.g, .int .i64 s.keep, .slice x.D s.dead.length x.d, .bool s.same] 28)).alloc (.cells #[.slice y.A s.rows.length y.a, .slice y.R s.sp.refs.length y.r, .slice y.L s.sp.last.length y.l, .int .i64 s.txg, .slice y.G s.gone.length y.g, .int .i64 s.keep, .slice y.D s.dead.length y.d, .bool s.same] 28) := ⟨_, rfl⟩
  have b0 := (B8.new w 28 (.slice x.A s.rows.length x.a) (.slice x.R s.sp.refs.length x.r) (.slice x.L s.sp.last.length x.l) (.int .i64 s.txg) (.slice x.G s.gone.length x.g) (.int .i64 s.keep) (.slice x.D s.dead.length x.d) (.bool s.same)).alloc (.cells #[.slice y.A s.rows.length y.a, .slice y.R s.sp.refs.length y.r, .slice y.L s.sp.last.length y.l, .int .i64 s.txg, .slice y.G s.gone.length y.g, .int .i64 s.keep, .slice y.D s.dead.length y.d, .bool s.same] 28)
  have c0 := B8.new (w.alloc (.cells #[.slice x.A s.rows.length x.a, .slice x.R s.sp.refs.length x.r, .slice x.L s.sp.last.length x.l, .int .i64 s.txg, .slice x.G s.gone.length x.g, .int .i64 s.keep, .slice x.D s.dead.length x.d, .bool s.same] 28)) 28 (.slice y.A s.rows.length y.a) (.slice y.R s.sp.refs.length y.r) (.slice y.L s.sp.last.length y.l) (.int .i64 s.txg) (.slice y.G s.gone.length y.g) (.int .i64 s.keep) (.slice y.D s.dead.length y.d) (.bool s.same)
  rw [World.size_alloc] at c0
  have B0 : Below w.heap.size w ((w.alloc (.cells #[.slice x.A s.rows.length x.a, .slice x.R s.sp.refs.length x.r, .slice x.L s.sp.last.length x.l, .int .i64 s.txg, .slice x.G s.gone.length x.g, .int .i64 s.keep, .slice x.D s.dead.length x.d, .bool s.same] 28)).alloc (.cells #[.slice y.A s.rows.length y.a, .slice y.R s.sp.refs.length y.r, .slice y.L s.sp.last.length y.l, .int .i64 s.txg, .slice y.G s.gone.length y.g, .int .i64 s.keep, .slice y.D s.dead.length y.d, .bool s.same] 28)) := bel_new (bel_new (Below.refl _ _) _) _
  have k1 := h1.below B0
  have k2 := h2.below B0
  have hS := fun W (p : Own W b1 t1 (rows5 x s)) (q : Own W b2 t2 (rows5 y s)) => Sx.eq_strs x.A y.A x.a y.a s.rows W hs.rows p.at5.rows q.at5.rows
  have hT := fun W (p : Own W b1 t1 (rows5 x s)) (q : Own W b2 t2 (rows5 y s)) => eq_space x.R x.L y.R y.L x.r x.l y.r y.l s.sp W hs.refs hs.last p.at5.sp q.at5.sp
  have hG := fun W (p : Own W b1 t1 (rows5 x s)) (q : Own W b2 t2 (rows5 y s)) => eq_ptrsO (w := W) hs.gone (p.row 3 (by simp [rows5])) (q.row 3 (by simp [rows5]))
  have hD := fun W (p : Own W b1 t1 (rows5 x s)) (q : Own W b2 t2 (rows5 y s)) => eq_ptrsO (w := W) hs.dead (p.row 4 (by simp [rows5])) (q.row 4 (by simp [rows5]))
  have n1 : (s.txg != s.txg) = false := by simp
  have n2 : (s.keep != s.keep) = false := by simp
  have n3 : (s.same != s.same) = false := by simp
  rw [← hw0] at b0 c0 B0 k1 k2
  clear h1 h2 hs
  have hS0 := hS w0 k1 k2
  clear hS
  subst hw0
  go_enter Try.func13, Try.ntmps13
  go_wp2_with (go_at_call 36; refine hS0.mono ?_; rintro r w2 ⟨rfl, hb2⟩; refine Hid.out ?_)
  refine Lib.hid ?_
  have B0 := bel_then B0 hb2
  have b0 := b0.below hb2
  have c0 := c0.below hb2
  have k1 := k1.below hb2
  have k2 := k2.below hb2
  clear hb2
  obtain ⟨x0, x1, x2, x3, x4, x5, x6, x7⟩ := b0.cells
  obtain ⟨y0, y1, y2, y3, y4, y5, y6, y7⟩ := c0.cells
  have L := hT w2 k1 k2
  go_wp2_with (go_at_call 37; refine L.mono ?_; rintro r w3 ⟨rfl, hb3⟩; refine Hid.out ?_)
  refine Lib.hid ?_
  have B0 := bel_then B0 hb3
  have b0 := b0.below hb3
  have c0 := c0.below hb3
  have k1 := k1.below hb3
  have k2 := k2.below hb3
  clear hb3
  obtain ⟨x0, x1, x2, x3, x4, x5, x6, x7⟩ := b0.cells
  obtain ⟨y0, y1, y2, y3, y4, y5, y6, y7⟩ := c0.cells
  have L := hG w3 k1 k2
  go_wp2_with (go_at_call 38; refine L.mono ?_; rintro r w4 ⟨rfl, hb4⟩; refine Hid.out ?_)
  refine Lib.hid ?_
  have B0 := bel_then B0 hb4
  have b0 := b0.below hb4
  have c0 := c0.below hb4
  have k1 := k1.below hb4
  have k2 := k2.below hb4
  clear hb4
  obtain ⟨x0, x1, x2, x3, x4, x5, x6, x7⟩ := b0.cells
  obtain ⟨y0, y1, y2, y3, y4, y5, y6, y7⟩ := c0.cells
  have L := hD w4 k1 k2
  go_wp2_with (go_at_call 38; refine L.mono ?_; rintro r w5 ⟨rfl, hb5⟩; refine Hid.out ?_)
  refine Lib.hid ?_
  have B0 := bel_then B0 hb5
  have b0 := b0.below hb5
  have c0 := c0.below hb5
  have k1 := k1.below hb5
  have k2 := k2.below hb5
  clear hb5
  obtain ⟨x0, x1, x2, x3, x4, x5, x6, x7⟩ := b0.cells
  obtain ⟨y0, y1, y2, y3, y4, y5, y6, y7⟩ := c0.cells
  go_wp2_with fail
  go_ret
  exact ⟨rfl, B0⟩
end Go.Proofs.Ytmnamclndpfjnaa
