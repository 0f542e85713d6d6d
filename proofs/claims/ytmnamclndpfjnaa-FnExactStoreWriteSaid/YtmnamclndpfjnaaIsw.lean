/-
  A block is written, as the program does it.
-/
import Derived.Test.YtmnamclndpfjnaaWrn
import Derived.Test.YtmnamclndpfjnaaSOk
namespace Go.Proofs.Ytmnamclndpfjnaa
open Go.RowKit

set_option maxRecDepth 100000 in
set_option maxHeartbeats 4000000 in
theorem impl_swrite (x : SA) (s : St) (t : ByteArray) (lv : Int) (w : World) (hs : SBulk s) (hA : StAt w x s) :
    Calls Try.prog 24 #[(.agg #[.slice x.A s.rows.length x.a, .slice x.R s.sp.refs.length x.r, .slice x.L s.sp.last.length x.l, .int .i64 s.txg, .slice x.G s.gone.length x.g, .int .i64 s.keep, .slice x.D s.dead.length x.d, .bool s.same]), .string t, .int .i64 lv] w (TPost3 (writeS s t lv) (writeP s t lv) (writeF s t lv) w) := by
  have a0 := ((B8.new w 28 (.slice x.A s.rows.length x.a) (.slice x.R s.sp.refs.length x.r) (.slice x.L s.sp.last.length x.l) (.int .i64 s.txg) (.slice x.G s.gone.length x.g) (.int .i64 s.keep) (.slice x.D s.dead.length x.d) (.bool s.same)).alloc (.cells #[.slice none 0 0, .slice none 0 0, .slice none 0 0, .int .i64 0, .slice none 0 0, .int .i64 0, .slice none 0 0, .bool false] 28)).alloc (.cells #[.int .i64 0, .int .i64 0, .int .i64 0, .int .i64 0, .int .i64 0] 45)
  have c0 := (B8.new (w.alloc (.cells #[.slice x.A s.rows.length x.a, .slice x.R s.sp.refs.length x.r, .slice x.L s.sp.last.length x.l, .int .i64 s.txg, .slice x.G s.gone.length x.g, .int .i64 s.keep, .slice x.D s.dead.length x.d, .bool s.same] 28)) 28 (.slice none 0 0) (.slice none 0 0) (.slice none 0 0) (.int .i64 0) (.slice none 0 0) (.int .i64 0) (.slice none 0 0) (.bool false)).alloc (.cells #[.int .i64 0, .int .i64 0, .int .i64 0, .int .i64 0, .int .i64 0] 45)
  have p0 := V5.new ((w.alloc (.cells #[.slice x.A s.rows.length x.a, .slice x.R s.sp.refs.length x.r, .slice x.L s.sp.last.length x.l, .int .i64 s.txg, .slice x.G s.gone.length x.g, .int .i64 s.keep, .slice x.D s.dead.length x.d, .bool s.same] 28)).alloc (.cells #[.slice none 0 0, .slice none 0 0, .slice none 0 0, .int .i64 0, .slice none 0 0, .int .i64 0, .slice none 0 0, .bool false] 28)) 0 0 0 0 0
  rw [World.size_alloc] at c0
  rw [World.size_alloc, World.size_alloc] at p0
  have B0 := bel_new (bel_new (bel_new (Below.refl w.heap.size w) (.cells #[.slice x.A s.rows.length x.a, .slice x.R s.sp.refs.length x.r, .slice x.L s.sp.last.length x.l, .int .i64 s.txg, .slice x.G s.gone.length x.g, .int .i64 s.keep, .slice x.D s.dead.length x.d, .bool s.same] 28)) (.cells #[.slice none 0 0, .slice none 0 0, .slice none 0 0, .int .i64 0, .slice none 0 0, .int .i64 0, .slice none 0 0, .bool false] 28)) (.cells #[.int .i64 0, .int .i64 0, .int .i64 0, .int .i64 0, .int .i64 0] 45)
  have sz : (((w.alloc (.cells #[.slice x.A s.rows.length x.a, .slice x.R s.sp.refs.length x.r, .slice x.L s.sp.last.length x.l, .int .i64 s.txg, .slice x.G s.gone.length x.g, .int .i64 s.keep, .slice x.D s.dead.length x.d, .bool s.same] 28)).alloc (.cells #[.slice none 0 0, .slice none 0 0, .slice none 0 0, .int .i64 0, .slice none 0 0, .int .i64 0, .slice none 0 0, .bool false] 28)).alloc (.cells #[.int .i64 0, .int .i64 0, .int .i64 0, .int .i64 0, .int .i64 0] 45)).heap.size = w.heap.size + 1 + 1 + 1 := by rw [World.size_alloc, World.size_alloc, World.size_alloc]
  have HOO := impl_mok x s _ hs (hA.below B0)
  have hBk : ∀ W, Calls Try.prog 62 #[.string t] W fun r w' => r = .returned (.bool (decide (blockB t))) ∧ Below W.heap.size W w' := fun W => (impl_block t W).mono fun r w' ⟨h1, h2⟩ => ⟨h1, h2 ▸ Below.refl _ _⟩
  have hIn : ∀ W, Calls Try.prog 63 #[.int .i64 lv, .int .i64 0, .int .i64 2] W fun r w' => r = .returned (.bool (inB lv 0 2)) ∧ Below W.heap.size W w' := fun W => (i_in lv 0 2 W).mono fun r w' ⟨h1, h2⟩ => ⟨h1, h2 ▸ Below.refl _ _⟩
  by_cases hok : StOk s
  case neg =>
    rw [okSt_no hok] at HOO
    obtain ⟨e1, e2, e3⟩ := write_no (fun h : writeOk s t lv => hok h.1)
    rw [e1, e2, e3]
    clear hs hA hok hBk hIn e1 e2 e3
    go_enter Try.func24, Try.ntmps24
    go_upto_region 1 with fail
    obtain ⟨W0, hW0⟩ : ∃ W, W = (((w.alloc (.cells #[.slice x.A s.rows.length x.a, .slice x.R s.sp.refs.length x.r, .slice x.L s.sp.last.length x.l, .int .i64 s.txg, .slice x.G s.gone.length x.g, .int .i64 s.keep, .slice x.D s.dead.length x.d, .bool s.same] 28)).alloc (.cells #[.slice none 0 0, .slice none 0 0, .slice none 0 0, .int .i64 0, .slice none 0 0, .int .i64 0, .slice none 0 0, .bool false] 28)).alloc (.cells #[.int .i64 0, .int .i64 0, .int .i64 0, .int .i64 0, .int .i64 0] 45)) := ⟨_, rfl⟩
    rw [← hW0] at a0 p0 c0 B0 sz HOO ⊢
    clear hW0
    replace sz := Nat.le_of_eq sz.symm
    obtain ⟨x0, x1, x2, x3, x4, x5, x6, x7⟩ := a0.cells
    go_wp2_with (go_at_call 55; refine (HOO).mono ?_; rintro r w1 ⟨rfl, hb1⟩; refine Hid.out ?_)
    refine Lib.hid ?_
    clear x0 x1 x2 x3 x4 x5 x6 x7
    have a1 := a0.below hb1
    have p1 := p0.below hb1
    have c1 := c0.below hb1
    have B1 := bel_then B0 hb1
    have s1 := Nat.le_trans sz hb1.size
    obtain ⟨z0, z1, z2, z3, z4, z5, z6, z7⟩ := c1.cells
    obtain ⟨f0, f1, f2, f3, f4, f5, f6, f7⟩ := c1.fro
    obtain ⟨v0, v1, v2, v3, v4⟩ := p1.cells
    obtain ⟨g0, g1, g2, g3, g4⟩ := p1.fro
    go_wp2_with fail
    clear z0 z1 z2 z3 z4 z5 z6 z7 f0 f1 f2 f3 f4 f5 f6 f7 v0 v1 v2 v3 v4 g0 g1 g2 g3 g4
    have QC := (put5_far (P := w.heap.size + 1 + 1) (u0 := 0) (u1 := 0) (u2 := 0) (u3 := 0) (u4 := 0) (set8_box (H := w.heap.size + 1) (u0 := .slice none 0 0) (u1 := .slice none 0 0) (u2 := .slice none 0 0) (u3 := .int .i64 0) (u4 := .slice none 0 0) (u5 := .int .i64 0) (u6 := .slice none 0 0) (u7 := .bool false) c1) (by omega)).cells
    have QP := (V5.put (u0 := 0) (u1 := 0) (u2 := 0) (u3 := 0) (u4 := 0) (v5_far8 (H := w.heap.size + 1) (u0 := .slice none 0 0) (u1 := .slice none 0 0) (u2 := .slice none 0 0) (u3 := .int .i64 0) (u4 := .slice none 0 0) (u5 := .int .i64 0) (u6 := .slice none 0 0) (u7 := .bool false) p1 (by omega))).cells
    have BE := (put5_bel (P := w.heap.size + 1 + 1) (u0 := 0) (u1 := 0) (u2 := 0) (u3 := 0) (u4 := 0) (set8_bel (H := w.heap.size + 1) (u0 := .slice none 0 0) (u1 := .slice none 0 0) (u2 := .slice none 0 0) (u3 := .int .i64 0) (u4 := .slice none 0 0) (u5 := .int .i64 0) (u6 := .slice none 0 0) (u7 := .bool false) B1 (by omega)) (by omega))
    change bodyPost Try.prog Try.f24 _ Exit.ret _ ((((((((((((((w1.setCell ⟨w.heap.size + 1, 0, none⟩ (.slice none 0 0)).setCell ⟨w.heap.size + 1, 1, none⟩ (.slice none 0 0)).setCell ⟨w.heap.size + 1, 2, none⟩ (.slice none 0 0)).setCell ⟨w.heap.size + 1, 3, none⟩ (.int .i64 0)).setCell ⟨w.heap.size + 1, 4, none⟩ (.slice none 0 0)).setCell ⟨w.heap.size + 1, 5, none⟩ (.int .i64 0)).setCell ⟨w.heap.size + 1, 6, none⟩ (.slice none 0 0)).setCell ⟨w.heap.size + 1, 7, none⟩ (.bool false)).setCell ⟨w.heap.size + 1 + 1, 0, none⟩ (.int .i64 0)).setCell ⟨w.heap.size + 1 + 1, 1, none⟩ (.int .i64 0)).setCell ⟨w.heap.size + 1 + 1, 2, none⟩ (.int .i64 0)).setCell ⟨w.heap.size + 1 + 1, 3, none⟩ (.int .i64 0)).setCell ⟨w.heap.size + 1 + 1, 4, none⟩ (.int .i64 0)))
    generalize (((((((((((((w1.setCell ⟨w.heap.size + 1, 0, none⟩ (.slice none 0 0)).setCell ⟨w.heap.size + 1, 1, none⟩ (.slice none 0 0)).setCell ⟨w.heap.size + 1, 2, none⟩ (.slice none 0 0)).setCell ⟨w.heap.size + 1, 3, none⟩ (.int .i64 0)).setCell ⟨w.heap.size + 1, 4, none⟩ (.slice none 0 0)).setCell ⟨w.heap.size + 1, 5, none⟩ (.int .i64 0)).setCell ⟨w.heap.size + 1, 6, none⟩ (.slice none 0 0)).setCell ⟨w.heap.size + 1, 7, none⟩ (.bool false)).setCell ⟨w.heap.size + 1 + 1, 0, none⟩ (.int .i64 0)).setCell ⟨w.heap.size + 1 + 1, 1, none⟩ (.int .i64 0)).setCell ⟨w.heap.size + 1 + 1, 2, none⟩ (.int .i64 0)).setCell ⟨w.heap.size + 1 + 1, 3, none⟩ (.int .i64 0)).setCell ⟨w.heap.size + 1 + 1, 4, none⟩ (.int .i64 0)) = WF at QC QP BE ⊢
    obtain ⟨q0, q1, q2, q3, q4, q5, q6, q7⟩ := QC
    obtain ⟨r0, r1, r2, r3, r4⟩ := QP
    exact bodyPost_ret (v := .tuple #[.agg #[.slice none 0 0, .slice none 0 0, .slice none 0 0, .int .i64 0, .slice none 0 0, .int .i64 0, .slice none 0 0, .bool false], .agg #[.int .i64 0, .int .i64 0, .int .i64 0, .int .i64 0, .int .i64 0], .bool false]) (by simp [results, Try.f24, go_sem, q0, q1, q2, q3, q4, q5, q6, q7, r0, r1, r2, r3, r4]) rfl ⟨SA.none, rfl, own_none _ _ _, BE⟩
  rw [okSt_yes hok] at HOO
  by_cases hb : blockB t
  case neg =>
    obtain ⟨e1, e2, e3⟩ := write_no (fun h : writeOk s t lv => hb h.2.1)
    rw [e1, e2, e3]
    rw [decide_eq_false hb] at hBk
    clear hs hA hok hb hIn e1 e2 e3
    go_enter Try.func24, Try.ntmps24
    go_upto_region 1 with fail
    obtain ⟨W0, hW0⟩ : ∃ W, W = (((w.alloc (.cells #[.slice x.A s.rows.length x.a, .slice x.R s.sp.refs.length x.r, .slice x.L s.sp.last.length x.l, .int .i64 s.txg, .slice x.G s.gone.length x.g, .int .i64 s.keep, .slice x.D s.dead.length x.d, .bool s.same] 28)).alloc (.cells #[.slice none 0 0, .slice none 0 0, .slice none 0 0, .int .i64 0, .slice none 0 0, .int .i64 0, .slice none 0 0, .bool false] 28)).alloc (.cells #[.int .i64 0, .int .i64 0, .int .i64 0, .int .i64 0, .int .i64 0] 45)) := ⟨_, rfl⟩
    rw [← hW0] at a0 p0 c0 B0 sz HOO ⊢
    clear hW0
    replace sz := Nat.le_of_eq sz.symm
    obtain ⟨x0, x1, x2, x3, x4, x5, x6, x7⟩ := a0.cells
    go_wp2_with (go_at_call 55; refine (HOO).mono ?_; rintro r w1 ⟨rfl, hb1⟩; refine Hid.out ?_)
    refine Lib.hid ?_
    clear x0 x1 x2 x3 x4 x5 x6 x7
    have a1 := a0.below hb1
    have p1 := p0.below hb1
    have c1 := c0.below hb1
    have B1 := bel_then B0 hb1
    have s1 := Nat.le_trans sz hb1.size
    obtain ⟨x0, x1, x2, x3, x4, x5, x6, x7⟩ := a1.cells
    go_wp2_with (go_at_call 62; refine (hBk _).mono ?_; rintro r w2 ⟨rfl, hb2⟩; refine Hid.out ?_)
    refine Lib.hid ?_
    clear x0 x1 x2 x3 x4 x5 x6 x7
    have a2 := a1.below hb2
    have p2 := p1.below hb2
    have c2 := c1.below hb2
    have B2 := bel_then B1 hb2
    have s2 := Nat.le_trans s1 hb2.size
    obtain ⟨z0, z1, z2, z3, z4, z5, z6, z7⟩ := c2.cells
    obtain ⟨f0, f1, f2, f3, f4, f5, f6, f7⟩ := c2.fro
    obtain ⟨v0, v1, v2, v3, v4⟩ := p2.cells
    obtain ⟨g0, g1, g2, g3, g4⟩ := p2.fro
    go_wp2_with fail
    clear z0 z1 z2 z3 z4 z5 z6 z7 f0 f1 f2 f3 f4 f5 f6 f7 v0 v1 v2 v3 v4 g0 g1 g2 g3 g4
    have QC := (put5_far (P := w.heap.size + 1 + 1) (u0 := 0) (u1 := 0) (u2 := 0) (u3 := 0) (u4 := 0) (set8_box (H := w.heap.size + 1) (u0 := .slice none 0 0) (u1 := .slice none 0 0) (u2 := .slice none 0 0) (u3 := .int .i64 0) (u4 := .slice none 0 0) (u5 := .int .i64 0) (u6 := .slice none 0 0) (u7 := .bool false) c2) (by omega)).cells
    have QP := (V5.put (u0 := 0) (u1 := 0) (u2 := 0) (u3 := 0) (u4 := 0) (v5_far8 (H := w.heap.size + 1) (u0 := .slice none 0 0) (u1 := .slice none 0 0) (u2 := .slice none 0 0) (u3 := .int .i64 0) (u4 := .slice none 0 0) (u5 := .int .i64 0) (u6 := .slice none 0 0) (u7 := .bool false) p2 (by omega))).cells
    have BE := (put5_bel (P := w.heap.size + 1 + 1) (u0 := 0) (u1 := 0) (u2 := 0) (u3 := 0) (u4 := 0) (set8_bel (H := w.heap.size + 1) (u0 := .slice none 0 0) (u1 := .slice none 0 0) (u2 := .slice none 0 0) (u3 := .int .i64 0) (u4 := .slice none 0 0) (u5 := .int .i64 0) (u6 := .slice none 0 0) (u7 := .bool false) B2 (by omega)) (by omega))
    change bodyPost Try.prog Try.f24 _ Exit.ret _ ((((((((((((((w2.setCell ⟨w.heap.size + 1, 0, none⟩ (.slice none 0 0)).setCell ⟨w.heap.size + 1, 1, none⟩ (.slice none 0 0)).setCell ⟨w.heap.size + 1, 2, none⟩ (.slice none 0 0)).setCell ⟨w.heap.size + 1, 3, none⟩ (.int .i64 0)).setCell ⟨w.heap.size + 1, 4, none⟩ (.slice none 0 0)).setCell ⟨w.heap.size + 1, 5, none⟩ (.int .i64 0)).setCell ⟨w.heap.size + 1, 6, none⟩ (.slice none 0 0)).setCell ⟨w.heap.size + 1, 7, none⟩ (.bool false)).setCell ⟨w.heap.size + 1 + 1, 0, none⟩ (.int .i64 0)).setCell ⟨w.heap.size + 1 + 1, 1, none⟩ (.int .i64 0)).setCell ⟨w.heap.size + 1 + 1, 2, none⟩ (.int .i64 0)).setCell ⟨w.heap.size + 1 + 1, 3, none⟩ (.int .i64 0)).setCell ⟨w.heap.size + 1 + 1, 4, none⟩ (.int .i64 0)))
    generalize (((((((((((((w2.setCell ⟨w.heap.size + 1, 0, none⟩ (.slice none 0 0)).setCell ⟨w.heap.size + 1, 1, none⟩ (.slice none 0 0)).setCell ⟨w.heap.size + 1, 2, none⟩ (.slice none 0 0)).setCell ⟨w.heap.size + 1, 3, none⟩ (.int .i64 0)).setCell ⟨w.heap.size + 1, 4, none⟩ (.slice none 0 0)).setCell ⟨w.heap.size + 1, 5, none⟩ (.int .i64 0)).setCell ⟨w.heap.size + 1, 6, none⟩ (.slice none 0 0)).setCell ⟨w.heap.size + 1, 7, none⟩ (.bool false)).setCell ⟨w.heap.size + 1 + 1, 0, none⟩ (.int .i64 0)).setCell ⟨w.heap.size + 1 + 1, 1, none⟩ (.int .i64 0)).setCell ⟨w.heap.size + 1 + 1, 2, none⟩ (.int .i64 0)).setCell ⟨w.heap.size + 1 + 1, 3, none⟩ (.int .i64 0)).setCell ⟨w.heap.size + 1 + 1, 4, none⟩ (.int .i64 0)) = WF at QC QP BE ⊢
    obtain ⟨q0, q1, q2, q3, q4, q5, q6, q7⟩ := QC
    obtain ⟨r0, r1, r2, r3, r4⟩ := QP
    exact bodyPost_ret (v := .tuple #[.agg #[.slice none 0 0, .slice none 0 0, .slice none 0 0, .int .i64 0, .slice none 0 0, .int .i64 0, .slice none 0 0, .bool false], .agg #[.int .i64 0, .int .i64 0, .int .i64 0, .int .i64 0, .int .i64 0], .bool false]) (by simp [results, Try.f24, go_sem, q0, q1, q2, q3, q4, q5, q6, q7, r0, r1, r2, r3, r4]) rfl ⟨SA.none, rfl, own_none _ _ _, BE⟩
  rw [decide_eq_true hb] at hBk
  by_cases hl : 0 ≤ lv ∧ lv ≤ 2
  case neg =>
    obtain ⟨e1, e2, e3⟩ := write_no (fun h : writeOk s t lv => hl h.2.2.1)
    rw [e1, e2, e3]
    rw [inB_no hl] at hIn
    clear hs hA hok hb hl e1 e2 e3
    go_enter Try.func24, Try.ntmps24
    go_upto_region 1 with fail
    obtain ⟨W0, hW0⟩ : ∃ W, W = (((w.alloc (.cells #[.slice x.A s.rows.length x.a, .slice x.R s.sp.refs.length x.r, .slice x.L s.sp.last.length x.l, .int .i64 s.txg, .slice x.G s.gone.length x.g, .int .i64 s.keep, .slice x.D s.dead.length x.d, .bool s.same] 28)).alloc (.cells #[.slice none 0 0, .slice none 0 0, .slice none 0 0, .int .i64 0, .slice none 0 0, .int .i64 0, .slice none 0 0, .bool false] 28)).alloc (.cells #[.int .i64 0, .int .i64 0, .int .i64 0, .int .i64 0, .int .i64 0] 45)) := ⟨_, rfl⟩
    rw [← hW0] at a0 p0 c0 B0 sz HOO ⊢
    clear hW0
    replace sz := Nat.le_of_eq sz.symm
    obtain ⟨x0, x1, x2, x3, x4, x5, x6, x7⟩ := a0.cells
    go_wp2_with (go_at_call 55; refine (HOO).mono ?_; rintro r w1 ⟨rfl, hb1⟩; refine Hid.out ?_)
    refine Lib.hid ?_
    clear x0 x1 x2 x3 x4 x5 x6 x7
    have a1 := a0.below hb1
    have p1 := p0.below hb1
    have c1 := c0.below hb1
    have B1 := bel_then B0 hb1
    have s1 := Nat.le_trans sz hb1.size
    obtain ⟨x0, x1, x2, x3, x4, x5, x6, x7⟩ := a1.cells
    go_wp2_with (go_at_call 62; refine (hBk _).mono ?_; rintro r w2 ⟨rfl, hb2⟩; refine Hid.out ?_)
    refine Lib.hid ?_
    clear x0 x1 x2 x3 x4 x5 x6 x7
    have a2 := a1.below hb2
    have p2 := p1.below hb2
    have c2 := c1.below hb2
    have B2 := bel_then B1 hb2
    have s2 := Nat.le_trans s1 hb2.size
    obtain ⟨x0, x1, x2, x3, x4, x5, x6, x7⟩ := a2.cells
    go_wp2_with (go_at_call 63; refine (hIn _).mono ?_; rintro r w3 ⟨rfl, hb3⟩; refine Hid.out ?_)
    refine Lib.hid ?_
    clear x0 x1 x2 x3 x4 x5 x6 x7
    have a3 := a2.below hb3
    have p3 := p2.below hb3
    have c3 := c2.below hb3
    have B3 := bel_then B2 hb3
    have s3 := Nat.le_trans s2 hb3.size
    obtain ⟨z0, z1, z2, z3, z4, z5, z6, z7⟩ := c3.cells
    obtain ⟨f0, f1, f2, f3, f4, f5, f6, f7⟩ := c3.fro
    obtain ⟨v0, v1, v2, v3, v4⟩ := p3.cells
    obtain ⟨g0, g1, g2, g3, g4⟩ := p3.fro
    go_wp2_with fail
    clear z0 z1 z2 z3 z4 z5 z6 z7 f0 f1 f2 f3 f4 f5 f6 f7 v0 v1 v2 v3 v4 g0 g1 g2 g3 g4
    have QC := (put5_far (P := w.heap.size + 1 + 1) (u0 := 0) (u1 := 0) (u2 := 0) (u3 := 0) (u4 := 0) (set8_box (H := w.heap.size + 1) (u0 := .slice none 0 0) (u1 := .slice none 0 0) (u2 := .slice none 0 0) (u3 := .int .i64 0) (u4 := .slice none 0 0) (u5 := .int .i64 0) (u6 := .slice none 0 0) (u7 := .bool false) c3) (by omega)).cells
    have QP := (V5.put (u0 := 0) (u1 := 0) (u2 := 0) (u3 := 0) (u4 := 0) (v5_far8 (H := w.heap.size + 1) (u0 := .slice none 0 0) (u1 := .slice none 0 0) (u2 := .slice none 0 0) (u3 := .int .i64 0) (u4 := .slice none 0 0) (u5 := .int .i64 0) (u6 := .slice none 0 0) (u7 := .bool false) p3 (by omega))).cells
    have BE := (put5_bel (P := w.heap.size + 1 + 1) (u0 := 0) (u1 := 0) (u2 := 0) (u3 := 0) (u4 := 0) (set8_bel (H := w.heap.size + 1) (u0 := .slice none 0 0) (u1 := .slice none 0 0) (u2 := .slice none 0 0) (u3 := .int .i64 0) (u4 := .slice none 0 0) (u5 := .int .i64 0) (u6 := .slice none 0 0) (u7 := .bool false) B3 (by omega)) (by omega))
    change bodyPost Try.prog Try.f24 _ Exit.ret _ ((((((((((((((w3.setCell ⟨w.heap.size + 1, 0, none⟩ (.slice none 0 0)).setCell ⟨w.heap.size + 1, 1, none⟩ (.slice none 0 0)).setCell ⟨w.heap.size + 1, 2, none⟩ (.slice none 0 0)).setCell ⟨w.heap.size + 1, 3, none⟩ (.int .i64 0)).setCell ⟨w.heap.size + 1, 4, none⟩ (.slice none 0 0)).setCell ⟨w.heap.size + 1, 5, none⟩ (.int .i64 0)).setCell ⟨w.heap.size + 1, 6, none⟩ (.slice none 0 0)).setCell ⟨w.heap.size + 1, 7, none⟩ (.bool false)).setCell ⟨w.heap.size + 1 + 1, 0, none⟩ (.int .i64 0)).setCell ⟨w.heap.size + 1 + 1, 1, none⟩ (.int .i64 0)).setCell ⟨w.heap.size + 1 + 1, 2, none⟩ (.int .i64 0)).setCell ⟨w.heap.size + 1 + 1, 3, none⟩ (.int .i64 0)).setCell ⟨w.heap.size + 1 + 1, 4, none⟩ (.int .i64 0)))
    generalize (((((((((((((w3.setCell ⟨w.heap.size + 1, 0, none⟩ (.slice none 0 0)).setCell ⟨w.heap.size + 1, 1, none⟩ (.slice none 0 0)).setCell ⟨w.heap.size + 1, 2, none⟩ (.slice none 0 0)).setCell ⟨w.heap.size + 1, 3, none⟩ (.int .i64 0)).setCell ⟨w.heap.size + 1, 4, none⟩ (.slice none 0 0)).setCell ⟨w.heap.size + 1, 5, none⟩ (.int .i64 0)).setCell ⟨w.heap.size + 1, 6, none⟩ (.slice none 0 0)).setCell ⟨w.heap.size + 1, 7, none⟩ (.bool false)).setCell ⟨w.heap.size + 1 + 1, 0, none⟩ (.int .i64 0)).setCell ⟨w.heap.size + 1 + 1, 1, none⟩ (.int .i64 0)).setCell ⟨w.heap.size + 1 + 1, 2, none⟩ (.int .i64 0)).setCell ⟨w.heap.size + 1 + 1, 3, none⟩ (.int .i64 0)).setCell ⟨w.heap.size + 1 + 1, 4, none⟩ (.int .i64 0)) = WF at QC QP BE ⊢
    obtain ⟨q0, q1, q2, q3, q4, q5, q6, q7⟩ := QC
    obtain ⟨r0, r1, r2, r3, r4⟩ := QP
    exact bodyPost_ret (v := .tuple #[.agg #[.slice none 0 0, .slice none 0 0, .slice none 0 0, .int .i64 0, .slice none 0 0, .int .i64 0, .slice none 0 0, .bool false], .agg #[.int .i64 0, .int .i64 0, .int .i64 0, .int .i64 0, .int .i64 0], .bool false]) (by simp [results, Try.f24, go_sem, q0, q1, q2, q3, q4, q5, q6, q7, r0, r1, r2, r3, r4]) rfl ⟨SA.none, rfl, own_none _ _ _, BE⟩
  rw [inB_yes hl] at hIn
  have hW := fun W (hW : Below w.heap.size w W) => impl_written x s t lv W hs hok hb hl (hA.below hW)
  unfold TPost3 at hW
  obtain ⟨ws, hws⟩ : ∃ q, q = writeS s t lv := ⟨_, rfl⟩
  obtain ⟨wp, hwp⟩ : ∃ q, q = writeP s t lv := ⟨_, rfl⟩
  obtain ⟨wf, hwf⟩ : ∃ q, q = writeF s t lv := ⟨_, rfl⟩
  simp only [← hws, ← hwp, ← hwf] at hW ⊢
  clear hs hA hok hb hl hws hwp hwf
  go_enter Try.func24, Try.ntmps24
  go_upto_region 1 with fail
  obtain ⟨W0, hW0⟩ : ∃ W, W = (((w.alloc (.cells #[.slice x.A s.rows.length x.a, .slice x.R s.sp.refs.length x.r, .slice x.L s.sp.last.length x.l, .int .i64 s.txg, .slice x.G s.gone.length x.g, .int .i64 s.keep, .slice x.D s.dead.length x.d, .bool s.same] 28)).alloc (.cells #[.slice none 0 0, .slice none 0 0, .slice none 0 0, .int .i64 0, .slice none 0 0, .int .i64 0, .slice none 0 0, .bool false] 28)).alloc (.cells #[.int .i64 0, .int .i64 0, .int .i64 0, .int .i64 0, .int .i64 0] 45)) := ⟨_, rfl⟩
  rw [← hW0] at a0 p0 c0 B0 sz HOO ⊢
  clear hW0
  replace sz := Nat.le_of_eq sz.symm
  obtain ⟨x0, x1, x2, x3, x4, x5, x6, x7⟩ := a0.cells
  go_wp2_with (go_at_call 55; refine (HOO).mono ?_; rintro r w1 ⟨rfl, hb1⟩; refine Hid.out ?_)
  refine Lib.hid ?_
  clear x0 x1 x2 x3 x4 x5 x6 x7
  have a1 := a0.below hb1
  have p1 := p0.below hb1
  have c1 := c0.below hb1
  have B1 := bel_then B0 hb1
  have s1 := Nat.le_trans sz hb1.size
  obtain ⟨x0, x1, x2, x3, x4, x5, x6, x7⟩ := a1.cells
  go_wp2_with (go_at_call 62; refine (hBk _).mono ?_; rintro r w2 ⟨rfl, hb2⟩; refine Hid.out ?_)
  refine Lib.hid ?_
  clear x0 x1 x2 x3 x4 x5 x6 x7
  have a2 := a1.below hb2
  have p2 := p1.below hb2
  have c2 := c1.below hb2
  have B2 := bel_then B1 hb2
  have s2 := Nat.le_trans s1 hb2.size
  obtain ⟨x0, x1, x2, x3, x4, x5, x6, x7⟩ := a2.cells
  go_wp2_with (go_at_call 63; refine (hIn _).mono ?_; rintro r w3 ⟨rfl, hb3⟩; refine Hid.out ?_)
  refine Lib.hid ?_
  clear x0 x1 x2 x3 x4 x5 x6 x7
  have a3 := a2.below hb3
  have p3 := p2.below hb3
  have c3 := c2.below hb3
  have B3 := bel_then B2 hb3
  have s3 := Nat.le_trans s2 hb3.size
  obtain ⟨x0, x1, x2, x3, x4, x5, x6, x7⟩ := a3.cells
  have L := hW _ B3
  go_wp2_with (go_at_call 64; refine L.mono ?_; rintro rr w4 ⟨y, rfl, O, hb4⟩; refine Hid.out ?_)
  refine Lib.hid ?_
  clear x0 x1 x2 x3 x4 x5 x6 x7 L hW
  have p4 := p3.below hb4
  have c4 := c3.below hb4
  have B4 := bel_then B3 hb4
  obtain ⟨z0, z1, z2, z3, z4, z5, z6, z7⟩ := c4.cells
  obtain ⟨f0, f1, f2, f3, f4, f5, f6, f7⟩ := c4.fro
  obtain ⟨v0, v1, v2, v3, v4⟩ := p4.cells
  obtain ⟨g0, g1, g2, g3, g4⟩ := p4.fro
  go_wp2_with fail
  clear z0 z1 z2 z3 z4 z5 z6 z7 f0 f1 f2 f3 f4 f5 f6 f7 v0 v1 v2 v3 v4 g0 g1 g2 g3 g4
  have OG := (put5_own (P := w.heap.size + 1 + 1) (u0 := wp.a) (u1 := wp.b) (u2 := wp.c) (u3 := wp.d) (u4 := wp.e) (set8_own (H := w.heap.size + 1) (u0 := .slice y.A ws.rows.length y.a) (u1 := .slice y.R ws.sp.refs.length y.r) (u2 := .slice y.L ws.sp.last.length y.l) (u3 := .int .i64 ws.txg) (u4 := .slice y.G ws.gone.length y.g) (u5 := .int .i64 ws.keep) (u6 := .slice y.D ws.dead.length y.d) (u7 := .bool ws.same) O (by omega)) (by omega)).at_top.base (base' := w.heap.size) (by omega)
  have QC := (put5_far (P := w.heap.size + 1 + 1) (u0 := wp.a) (u1 := wp.b) (u2 := wp.c) (u3 := wp.d) (u4 := wp.e) (set8_box (H := w.heap.size + 1) (u0 := .slice y.A ws.rows.length y.a) (u1 := .slice y.R ws.sp.refs.length y.r) (u2 := .slice y.L ws.sp.last.length y.l) (u3 := .int .i64 ws.txg) (u4 := .slice y.G ws.gone.length y.g) (u5 := .int .i64 ws.keep) (u6 := .slice y.D ws.dead.length y.d) (u7 := .bool ws.same) c4) (by omega)).cells
  have QP := (V5.put (u0 := wp.a) (u1 := wp.b) (u2 := wp.c) (u3 := wp.d) (u4 := wp.e) (v5_far8 (H := w.heap.size + 1) (u0 := .slice y.A ws.rows.length y.a) (u1 := .slice y.R ws.sp.refs.length y.r) (u2 := .slice y.L ws.sp.last.length y.l) (u3 := .int .i64 ws.txg) (u4 := .slice y.G ws.gone.length y.g) (u5 := .int .i64 ws.keep) (u6 := .slice y.D ws.dead.length y.d) (u7 := .bool ws.same) p4 (by omega))).cells
  have BE := (put5_bel (P := w.heap.size + 1 + 1) (u0 := wp.a) (u1 := wp.b) (u2 := wp.c) (u3 := wp.d) (u4 := wp.e) (set8_bel (H := w.heap.size + 1) (u0 := .slice y.A ws.rows.length y.a) (u1 := .slice y.R ws.sp.refs.length y.r) (u2 := .slice y.L ws.sp.last.length y.l) (u3 := .int .i64 ws.txg) (u4 := .slice y.G ws.gone.length y.g) (u5 := .int .i64 ws.keep) (u6 := .slice y.D ws.dead.length y.d) (u7 := .bool ws.same) B4 (by omega)) (by omega))
  change bodyPost Try.prog Try.f24 _ Exit.ret _ ((((((((((((((w4.setCell ⟨w.heap.size + 1, 0, none⟩ (.slice y.A ws.rows.length y.a)).setCell ⟨w.heap.size + 1, 1, none⟩ (.slice y.R ws.sp.refs.length y.r)).setCell ⟨w.heap.size + 1, 2, none⟩ (.slice y.L ws.sp.last.length y.l)).setCell ⟨w.heap.size + 1, 3, none⟩ (.int .i64 ws.txg)).setCell ⟨w.heap.size + 1, 4, none⟩ (.slice y.G ws.gone.length y.g)).setCell ⟨w.heap.size + 1, 5, none⟩ (.int .i64 ws.keep)).setCell ⟨w.heap.size + 1, 6, none⟩ (.slice y.D ws.dead.length y.d)).setCell ⟨w.heap.size + 1, 7, none⟩ (.bool ws.same)).setCell ⟨w.heap.size + 1 + 1, 0, none⟩ (.int .i64 wp.a)).setCell ⟨w.heap.size + 1 + 1, 1, none⟩ (.int .i64 wp.b)).setCell ⟨w.heap.size + 1 + 1, 2, none⟩ (.int .i64 wp.c)).setCell ⟨w.heap.size + 1 + 1, 3, none⟩ (.int .i64 wp.d)).setCell ⟨w.heap.size + 1 + 1, 4, none⟩ (.int .i64 wp.e)))
  generalize (((((((((((((w4.setCell ⟨w.heap.size + 1, 0, none⟩ (.slice y.A ws.rows.length y.a)).setCell ⟨w.heap.size + 1, 1, none⟩ (.slice y.R ws.sp.refs.length y.r)).setCell ⟨w.heap.size + 1, 2, none⟩ (.slice y.L ws.sp.last.length y.l)).setCell ⟨w.heap.size + 1, 3, none⟩ (.int .i64 ws.txg)).setCell ⟨w.heap.size + 1, 4, none⟩ (.slice y.G ws.gone.length y.g)).setCell ⟨w.heap.size + 1, 5, none⟩ (.int .i64 ws.keep)).setCell ⟨w.heap.size + 1, 6, none⟩ (.slice y.D ws.dead.length y.d)).setCell ⟨w.heap.size + 1, 7, none⟩ (.bool ws.same)).setCell ⟨w.heap.size + 1 + 1, 0, none⟩ (.int .i64 wp.a)).setCell ⟨w.heap.size + 1 + 1, 1, none⟩ (.int .i64 wp.b)).setCell ⟨w.heap.size + 1 + 1, 2, none⟩ (.int .i64 wp.c)).setCell ⟨w.heap.size + 1 + 1, 3, none⟩ (.int .i64 wp.d)).setCell ⟨w.heap.size + 1 + 1, 4, none⟩ (.int .i64 wp.e)) = WF at OG QC QP BE ⊢
  obtain ⟨q0, q1, q2, q3, q4, q5, q6, q7⟩ := QC
  obtain ⟨r0, r1, r2, r3, r4⟩ := QP
  exact bodyPost_ret (v := .tuple #[.agg #[.slice y.A ws.rows.length y.a, .slice y.R ws.sp.refs.length y.r, .slice y.L ws.sp.last.length y.l, .int .i64 ws.txg, .slice y.G ws.gone.length y.g, .int .i64 ws.keep, .slice y.D ws.dead.length y.d, .bool ws.same], .agg #[.int .i64 wp.a, .int .i64 wp.b, .int .i64 wp.c, .int .i64 wp.d, .int .i64 wp.e], .bool wf]) (by simp [results, Try.f24, go_sem, q0, q1, q2, q3, q4, q5, q6, q7, r0, r1, r2, r3, r4]) rfl ⟨y, rfl, OG, BE⟩
end Go.Proofs.Ytmnamclndpfjnaa
