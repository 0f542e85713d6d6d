/-
  The marks of a store.
-/
import Derived.Test.YtjmfefaoenmppaaGreatDoorKD
namespace Go.Proofs.YtjmfefaoenmppaaGreatDoor
open Go.RowKit

set_option maxRecDepth 100000 in
set_option maxHeartbeats 2000000 in
theorem mark_space5 {w : World} {base top : Nat} {r0 r3 r4 : Rw} (A B : Option Addr) (c e : Nat) (s : Sp) (a : Int) (ha : 1 ≤ a) (ha2 : a ≤ 2000000) (hn : s.refs.length ≤ 1048576) (hm : s.last.length ≤ 1048576)
    (h : Own w base top [r0, ⟨3, 1, s.refs.length, .slice A s.refs.length c, intCells s.refs⟩, ⟨3, 1, s.last.length, .slice B s.last.length e, intCells s.last⟩, r3, r4]) :
    Calls Tryz.prog 53 #[.agg #[.slice A s.refs.length c, .slice B s.last.length e], .int .i64 a] w fun r w' => r = .returned (.int .i64 (a + (s.refs.length : Int) + (s.last.length : Int))) ∧
      Own w' base top [r0, ⟨3, 1, s.refs.length, .slice A s.refs.length c, intCells (marks a s.refs.length)⟩, ⟨3, 1, s.last.length, .slice B s.last.length e, intCells (marks (a + (s.refs.length : Int)) s.last.length)⟩, r3, r4] ∧ Only base top w w' := by
  obtain ⟨xs, hxs⟩ : ∃ xs, xs = s.refs := ⟨_, rfl⟩
  obtain ⟨ys, hys⟩ : ∃ ys, ys = s.last := ⟨_, rfl⟩
  rw [← hxs, ← hys] at h
  rw [← hxs] at hn
  rw [← hys] at hm
  rw [← hxs, ← hys]
  clear hxs hys
  have k0 := h.below (bel_new (Below.refl w.heap.size w) (.cells #[.slice A xs.length c, .slice B ys.length e] 35))
  have hS := mark_ints base A c xs a _ ha (by omega) (k0.row 1 (by simp))
  have hT := fun W (k : Own W base top [r0, ⟨3, 1, xs.length, .slice A xs.length c, intCells (marks a xs.length)⟩, ⟨3, 1, ys.length, .slice B ys.length e, intCells ys⟩, r3, r4]) => mark_ints base B e ys (a + (xs.length : Int)) W (by omega) (by omega) (k.row 2 (by simp))
  have bx := B2.new w 35 (.slice A xs.length c) (.slice B ys.length e)
  have on0 : Only base top w (w.alloc (.cells #[.slice A xs.length c, .slice B ys.length e] 35)) := Only.of_below (bel_new (Below.refl _ _) _)
  have hlt : ∀ k, (Value.slice A xs.length c).ownBlock = some k → k < w.heap.size := fun k hk => ((h.row 1 (by simp)).lt k hk).2
  clear h
  go_enter Tryz.func53, Tryz.ntmps53
  go_wp2_with (go_at_call 35; refine hS.mono ?_; rintro r w2 ⟨rfl, o1, g1⟩; refine Hid.out ?_)
  refine Lib.hid ?_
  have k1 := k0.put 1 (by simp) (r := ⟨3, 1, xs.length, .slice A xs.length c, intCells (marks a xs.length)⟩) rfl g1 o1
  have on1 := on0.trans (k0.only_of 1 (by simp) g1)
  have b1 := bx.grown g1 (fun e => absurd (hlt _ e.symm) (Nat.lt_irrefl _))
  have L := hT w2 k1
  clear k0 hS hT o1 g1 bx on0
  obtain ⟨⟨x0, x1⟩, _⟩ := b1.cells
  go_wp2_with (go_at_call 35; refine L.mono ?_; rintro r w3 ⟨rfl, o2, g2⟩; refine Hid.out ?_)
  refine Lib.hid ?_
  have k2 := k1.put 2 (by simp) (r := ⟨3, 1, ys.length, .slice B ys.length e, intCells (marks (a + (xs.length : Int)) ys.length)⟩) rfl g2 o2
  have on2 := on1.trans (k1.only_of 2 (by simp) g2)
  clear L k1 on1 o2 g2 b1 x0 x1
  go_wp2_with fail
  go_ret
  exact ⟨rfl, k2, on2⟩

/-- The numbers that a store's marks go up to. -/
def mk1 (s : St) : Int := 1 + (s.rows.length : Int)
def mk2 (s : St) : Int := mk1 s + (s.sp.refs.length : Int) + (s.sp.last.length : Int)
def mk3 (s : St) : Int := mk2 s + 5 * (s.gone.length : Int)
def mk4 (s : St) : Int := mk3 s + 5 * (s.dead.length : Int)
structure SmallS (s : St) : Prop where
  rows : s.rows.length ≤ 1048576
  refs : s.sp.refs.length ≤ 1048576
  last : s.sp.last.length ≤ 1048576
  sum : s.rows.length + s.sp.refs.length + s.sp.last.length ≤ 1048576
  ptrs : 5 * s.gone.length + 5 * s.dead.length ≤ 6000000
def rowsM (x : SA) (s : St) : List Rw :=
  [⟨9, 1, s.rows.length, .slice x.A s.rows.length x.a, strCells (Sx.marks 1 s.rows.length)⟩, ⟨3, 1, s.sp.refs.length, .slice x.R s.sp.refs.length x.r, intCells (marks (mk1 s) s.sp.refs.length)⟩, ⟨3, 1, s.sp.last.length, .slice x.L s.sp.last.length x.l, intCells (marks (mk1 s + (s.sp.refs.length : Int)) s.sp.last.length)⟩,
   ⟨40, 5, s.gone.length, .slice x.G s.gone.length x.g, marksP (mk2 s) (5 * s.gone.length)⟩, ⟨40, 5, s.dead.length, .slice x.D s.dead.length x.d, marksP (mk3 s) (5 * s.dead.length)⟩]
def MkPost (base top : Nat) (x : SA) (s : St) (w : World) (r : Ending) (w' : World) : Prop := r = .returned (.int .i64 (mk4 s)) ∧ Own w' base top (rowsM x s) ∧ Only base top w w'

set_option maxRecDepth 100000 in
set_option maxHeartbeats 4000000 in
theorem mark_store {w : World} {base top : Nat} {x : SA} {s : St} (hs : SmallS s) (htop : top ≤ w.heap.size) (h : Own w base top (rows5 x s)) :
    Calls Tryz.prog 19 #[(.agg #[.slice x.A s.rows.length x.a, .slice x.R s.sp.refs.length x.r, .slice x.L s.sp.last.length x.l, .int .i64 s.txg, .slice x.G s.gone.length x.g, .int .i64 s.keep, .slice x.D s.dead.length x.d, .bool s.same]), .int .i64 1] w (MkPost base top x s w) := by
  obtain ⟨m1, hm1⟩ : ∃ m, m = mk1 s := ⟨_, rfl⟩
  obtain ⟨m2, hm2⟩ : ∃ m, m = mk2 s := ⟨_, rfl⟩
  obtain ⟨m3, hm3⟩ : ∃ m, m = mk3 s := ⟨_, rfl⟩
  obtain ⟨m4, hm4⟩ : ∃ m, m = mk4 s := ⟨_, rfl⟩
  have d1 : m1 = 1 + (s.rows.length : Int) := hm1
  have d2 : m2 = m1 + (s.sp.refs.length : Int) + (s.sp.last.length : Int) := by rw [hm2, hm1]; rfl
  have d3 : m3 = m2 + 5 * (s.gone.length : Int) := by rw [hm3, hm2]; rfl
  have d4 : m4 = m3 + 5 * (s.dead.length : Int) := by rw [hm4, hm3]; rfl
  obtain ⟨h1, h2, h3, h4, h5⟩ := hs
  have j1 : (1 : Int) ≤ m1 ∧ m1 ≤ 1048577 := by omega
  have j2 : (1 : Int) ≤ m2 ∧ m2 ≤ 1048577 := by omega
  have j3 : (1 : Int) ≤ m3 ∧ m3 ≤ 7048577 := by omega
  have k0 := h.below (bel_new (Below.refl w.heap.size w) (.cells #[.slice x.A s.rows.length x.a, .slice x.R s.sp.refs.length x.r, .slice x.L s.sp.last.length x.l, .int .i64 s.txg, .slice x.G s.gone.length x.g, .int .i64 s.keep, .slice x.D s.dead.length x.d, .bool s.same] 38))
  have b0 := B8.new w 38 (.slice x.A s.rows.length x.a) (.slice x.R s.sp.refs.length x.r) (.slice x.L s.sp.last.length x.l) (.int .i64 s.txg) (.slice x.G s.gone.length x.g) (.int .i64 s.keep) (.slice x.D s.dead.length x.d) (.bool s.same)
  have on0 : Only base top w (w.alloc (.cells #[.slice x.A s.rows.length x.a, .slice x.R s.sp.refs.length x.r, .slice x.L s.sp.last.length x.l, .int .i64 s.txg, .slice x.G s.gone.length x.g, .int .i64 s.keep, .slice x.D s.dead.length x.d, .bool s.same] 38)) := Only.of_below (bel_new (Below.refl _ _) _)
  have hS := Sx.mark_strs base 9 x.A x.a s.rows 1 _ (Nat.le_refl 1) (by omega) (k0.row 0 (by simp [rows5]))
  rw [show ((1 : Nat) : Int) = 1 from rfl] at hS
  have e1 : (1 : Int) + (s.rows.length : Int) = m1 := d1.symm
  have hT := fun W (k : Own W base top [⟨9, 1, s.rows.length, .slice x.A s.rows.length x.a, strCells (Sx.marks 1 s.rows.length)⟩, ⟨3, 1, s.sp.refs.length, .slice x.R s.sp.refs.length x.r, intCells s.sp.refs⟩, ⟨3, 1, s.sp.last.length, .slice x.L s.sp.last.length x.l, intCells s.sp.last⟩, ⟨40, 5, s.gone.length, .slice x.G s.gone.length x.g, flat s.gone⟩, ⟨40, 5, s.dead.length, .slice x.D s.dead.length x.d, flat s.dead⟩]) => mark_space5 x.R x.L x.r x.l s.sp m1 j1.1 (by omega) h2 h3 k
  rw [← d2] at hT
  have hG := fun W (k : Own W base top [⟨9, 1, s.rows.length, .slice x.A s.rows.length x.a, strCells (Sx.marks 1 s.rows.length)⟩, ⟨3, 1, s.sp.refs.length, .slice x.R s.sp.refs.length x.r, intCells (marks m1 s.sp.refs.length)⟩, ⟨3, 1, s.sp.last.length, .slice x.L s.sp.last.length x.l, intCells (marks (m1 + (s.sp.refs.length : Int)) s.sp.last.length)⟩, ⟨40, 5, s.gone.length, .slice x.G s.gone.length x.g, flat s.gone⟩, ⟨40, 5, s.dead.length, .slice x.D s.dead.length x.d, flat s.dead⟩]) => mark_ptrsO 40 base x.G x.g s.gone.length (flat s.gone) m2 W j2.1 (by omega) (k.row 3 (by simp))
  unfold MarkPo at hG
  rw [← d3] at hG
  have hD := fun W (k : Own W base top [⟨9, 1, s.rows.length, .slice x.A s.rows.length x.a, strCells (Sx.marks 1 s.rows.length)⟩, ⟨3, 1, s.sp.refs.length, .slice x.R s.sp.refs.length x.r, intCells (marks m1 s.sp.refs.length)⟩, ⟨3, 1, s.sp.last.length, .slice x.L s.sp.last.length x.l, intCells (marks (m1 + (s.sp.refs.length : Int)) s.sp.last.length)⟩, ⟨40, 5, s.gone.length, .slice x.G s.gone.length x.g, marksP m2 (5 * s.gone.length)⟩, ⟨40, 5, s.dead.length, .slice x.D s.dead.length x.d, flat s.dead⟩]) => mark_ptrsO 40 base x.D x.d s.dead.length (flat s.dead) m3 W j3.1 (by omega) (k.row 4 (by simp))
  unfold MarkPo at hD
  rw [← d4] at hD
  have hfin : ∀ W, Own W base top [⟨9, 1, s.rows.length, .slice x.A s.rows.length x.a, strCells (Sx.marks 1 s.rows.length)⟩, ⟨3, 1, s.sp.refs.length, .slice x.R s.sp.refs.length x.r, intCells (marks m1 s.sp.refs.length)⟩, ⟨3, 1, s.sp.last.length, .slice x.L s.sp.last.length x.l, intCells (marks (m1 + (s.sp.refs.length : Int)) s.sp.last.length)⟩, ⟨40, 5, s.gone.length, .slice x.G s.gone.length x.g, marksP m2 (5 * s.gone.length)⟩, ⟨40, 5, s.dead.length, .slice x.D s.dead.length x.d, marksP m3 (5 * s.dead.length)⟩] → Only base top w W → MkPost base top x s w (.returned (.int .i64 m4)) W := fun W k o => ⟨by rw [hm4], by rw [hm1, hm2, hm3] at k; exact k, o⟩
  have HFI := Lib.hid hfin
  have E1 := Lib.hid e1
  clear hfin d1 d2 d3 d4 h e1 hm1 hm2 hm3 hm4
  go_enter Tryz.func19, Tryz.ntmps19
  go_wp2_with (go_at_call 52; refine hS.mono ?_; rintro r w2 ⟨rfl, o1, g1⟩; refine Hid.out ?_)
  refine Lib.hid ?_
  rw [E1.out]
  have k1 := k0.put 0 (by simp [rows5]) (r := ⟨9, 1, s.rows.length, .slice x.A s.rows.length x.a, strCells (Sx.marks 1 s.rows.length)⟩) rfl g1 o1
  have on1 := on0.trans (k0.only_of 0 (by simp [rows5]) g1)
  have b1 := b0.only (Only.of_grown (lo := base) (hi := top) g1 (fun k hk => ⟨((k0.row 0 (by simp [rows5])).lt k hk).1, (k0.1 _ (List.mem_cons_self ..)).2 k hk⟩)) (by omega)
  have L := hT w2 k1
  clear k0 hS hT o1 g1 b0 on0
  obtain ⟨x0, x1, x2, x3, x4, x5, x6, x7⟩ := b1.cells
  go_wp2_with (go_at_call 53; refine L.mono ?_; rintro r w3 ⟨rfl, k2, on⟩; refine Hid.out ?_)
  refine Lib.hid ?_
  have b2 := b1.only on (by omega)
  have on2 := on1.trans on
  have L := hG w3 k2
  clear k1 on1 on b1 hG x0 x1 x2 x3 x4 x5 x6 x7
  obtain ⟨x0, x1, x2, x3, x4, x5, x6, x7⟩ := b2.cells
  go_wp2_with (go_at_call 20; refine L.mono ?_; rintro r w4 ⟨rfl, o1, g1⟩; refine Hid.out ?_)
  refine Lib.hid ?_
  have k3 := k2.put 3 (by simp) (r := ⟨40, 5, s.gone.length, .slice x.G s.gone.length x.g, marksP m2 (5 * s.gone.length)⟩) rfl g1 o1
  have on := k2.only_of 3 (by simp) g1
  have on3 := on2.trans on
  have b3 := b2.only on (by omega)
  have L := hD w4 k3
  clear k2 on2 on b2 hD o1 g1 x0 x1 x2 x3 x4 x5 x6 x7
  obtain ⟨x0, x1, x2, x3, x4, x5, x6, x7⟩ := b3.cells
  go_wp2_with (go_at_call 20; refine L.mono ?_; rintro r w5 ⟨rfl, o1, g1⟩; refine Hid.out ?_)
  refine Lib.hid ?_
  have k4 := k3.put 4 (by simp) (r := ⟨40, 5, s.dead.length, .slice x.D s.dead.length x.d, marksP m3 (5 * s.dead.length)⟩) rfl g1 o1
  have on4 := on3.trans (k3.only_of 4 (by simp) g1)
  clear k3 on3 b3 L o1 g1 x0 x1 x2 x3 x4 x5 x6 x7
  go_wp2_with fail
  go_ret
  exact HFI.out _ k4 on4

set_option maxRecDepth 100000 in
set_option maxHeartbeats 4000000 in
theorem held_store {w : World} {base top : Nat} {x : SA} {s : St} (hs : SmallS s) (h : Own w base top (rowsM x s)) :
    Calls Tryz.prog 27 #[(.agg #[.slice x.A s.rows.length x.a, .slice x.R s.sp.refs.length x.r, .slice x.L s.sp.last.length x.l, .int .i64 s.txg, .slice x.G s.gone.length x.g, .int .i64 s.keep, .slice x.D s.dead.length x.d, .bool s.same]), .int .i64 1] w fun r w' => r = .returned (.int .i64 (mk4 s)) ∧ Below w.heap.size w w' := by
  obtain ⟨m1, hm1⟩ : ∃ m, m = mk1 s := ⟨_, rfl⟩
  obtain ⟨m2, hm2⟩ : ∃ m, m = mk2 s := ⟨_, rfl⟩
  obtain ⟨m3, hm3⟩ : ∃ m, m = mk3 s := ⟨_, rfl⟩
  obtain ⟨m4, hm4⟩ : ∃ m, m = mk4 s := ⟨_, rfl⟩
  have d1 : m1 = 1 + (s.rows.length : Int) := hm1
  have d2 : m2 = m1 + (s.sp.refs.length : Int) + (s.sp.last.length : Int) := by rw [hm2, hm1]; rfl
  have d3 : m3 = m2 + 5 * (s.gone.length : Int) := by rw [hm3, hm2]; rfl
  have d4 : m4 = m3 + 5 * (s.dead.length : Int) := by rw [hm4, hm3]; rfl
  unfold rowsM at h
  rw [← hm1, ← hm2, ← hm3] at h
  rw [← hm4]
  obtain ⟨h1, h2, h3, h4, h5⟩ := hs
  have j1 : (1 : Int) ≤ m1 ∧ m1 ≤ 1048577 := by omega
  have j2 : (1 : Int) ≤ m2 ∧ m2 ≤ 1048577 := by omega
  have j3 : (1 : Int) ≤ m3 ∧ m3 ≤ 7048577 := by omega
  have j4 : (1 : Int) ≤ m4 := by omega
  have k0 := h.below (bel_new (Below.refl w.heap.size w) (.cells #[.slice x.A s.rows.length x.a, .slice x.R s.sp.refs.length x.r, .slice x.L s.sp.last.length x.l, .int .i64 s.txg, .slice x.G s.gone.length x.g, .int .i64 s.keep, .slice x.D s.dead.length x.d, .bool s.same] 38))
  have b0 := B8.new w 38 (.slice x.A s.rows.length x.a) (.slice x.R s.sp.refs.length x.r) (.slice x.L s.sp.last.length x.l) (.int .i64 s.txg) (.slice x.G s.gone.length x.g) (.int .i64 s.keep) (.slice x.D s.dead.length x.d) (.bool s.same)
  have BB := bel_new (Below.refl w.heap.size w) (.cells #[.slice x.A s.rows.length x.a, .slice x.R s.sp.refs.length x.r, .slice x.L s.sp.last.length x.l, .int .i64 s.txg, .slice x.G s.gone.length x.g, .int .i64 s.keep, .slice x.D s.dead.length x.d, .bool s.same] 38)
  have hS := Sx.held_strs base 9 x.A x.a s.rows.length 1 _ (Nat.le_refl 1) (by omega) (k0.row 0 (by simp))
  rw [show ((1 : Nat) : Int) = 1 from rfl, ← d1] at hS
  have hT := fun W (k : SpOwn W base (.agg #[.slice x.R s.sp.refs.length x.r, .slice x.L s.sp.last.length x.l]) (markSA m1 s.sp)) => held_spaceA base x.R x.L x.r x.l s.sp W m1 j1.1 (by omega) h2 h3 k
  rw [← d2] at hT
  have hG := fun W (k : W.ownsRow base 40 5 (.slice x.G s.gone.length x.g) s.gone.length (marksP m2 (5 * s.gone.length))) => held_ptrsO 40 base x.G x.g s.gone.length m2 W j2.1 (by omega) k
  rw [← d3] at hG
  have hD := fun W (k : W.ownsRow base 40 5 (.slice x.D s.dead.length x.d) s.dead.length (marksP m3 (5 * s.dead.length))) => held_ptrsO 40 base x.D x.d s.dead.length m3 W j3.1 (by omega) k
  rw [← d4] at hD
  have n1 : ¬ m1 < 0 := by omega
  have n2 : ¬ m2 < 0 := by omega
  have n3 : ¬ m3 < 0 := by omega
  have n4 : ¬ m4 < 0 := by omega
  clear d1 d2 d3 d4 h hm1 hm2 hm3 hm4
  go_enter Tryz.func27, Tryz.ntmps27
  go_wp2_with (go_at_call 62; refine hS.mono ?_; rintro r w2 ⟨rfl, hb2⟩; refine Hid.out ?_)
  refine Lib.hid ?_
  have k1 := k0.below hb2
  have b1 := b0.below hb2
  have BB := bel_then BB hb2
  have L := hT w2 ⟨_, _, rfl, by rw [markSA_1]; exact k1.row 1 (by simp), by rw [markSA_2]; exact k1.row 2 (by simp), apart_at k1.2 (i := 1) (j := 2) (by simp) (by simp) (by decide)⟩
  clear k0 b0 hS hT hb2
  obtain ⟨x0, x1, x2, x3, x4, x5, x6, x7⟩ := b1.cells
  go_wp2_with (go_at_call 63; refine L.mono ?_; rintro r w3 ⟨rfl, hb3⟩; refine Hid.out ?_)
  refine Lib.hid ?_
  have k2 := k1.below hb3
  have b2 := b1.below hb3
  have BB := bel_then BB hb3
  have L := hG w3 (k2.row 3 (by simp))
  clear k1 b1 hG hb3 x0 x1 x2 x3 x4 x5 x6 x7
  obtain ⟨x0, x1, x2, x3, x4, x5, x6, x7⟩ := b2.cells
  go_wp2_with (go_at_call 21; refine L.mono ?_; rintro r w4 ⟨rfl, rfl⟩; refine Hid.out ?_)
  refine Lib.hid ?_
  have L := hD w3 (k2.row 4 (by simp))
  clear hD
  go_wp2_with (go_at_call 21; refine L.mono ?_; rintro r w4 ⟨rfl, rfl⟩)
  go_ret
  exact ⟨rfl, BB⟩
end Go.Proofs.YtjmfefaoenmppaaGreatDoor
