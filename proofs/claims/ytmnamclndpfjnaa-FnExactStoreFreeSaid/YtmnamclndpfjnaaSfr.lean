/-
  A pointer is given up, as the specification does it.
-/
import Derived.Test.YtmnamclndpfjnaaFre
namespace Go.Proofs.Ytmnamclndpfjnaa
open Go.RowKit

theorem Q5.drew {W : World} {g : Nat} {a b c d e : Int} (h : Q5 W g a b c d e) : Q5 W.drew g a b c d e := h
set_option maxRecDepth 100000 in
set_option maxHeartbeats 8000000 in
theorem spec_sfree (x : SA) (s : St) (a b cs d e : Int) (w : World) (hs : SBulk s) (hA : StAt w x s) :
    Calls Try.prog 26 #[(.agg #[.slice x.A s.rows.length x.a, .slice x.R s.sp.refs.length x.r, .slice x.L s.sp.last.length x.l, .int .i64 s.txg, .slice x.G s.gone.length x.g, .int .i64 s.keep, .slice x.D s.dead.length x.d, .bool s.same]), .agg #[.int .i64 a, .int .i64 b, .int .i64 cs, .int .i64 d, .int .i64 e]] w (TPost2 (freeS s (⟨a, b, cs, d, e⟩ : P5)) (freeF s (⟨a, b, cs, d, e⟩ : P5)) w) := by
  have a0 := ((B8.new w 28 (.slice x.A s.rows.length x.a) (.slice x.R s.sp.refs.length x.r) (.slice x.L s.sp.last.length x.l) (.int .i64 s.txg) (.slice x.G s.gone.length x.g) (.int .i64 s.keep) (.slice x.D s.dead.length x.d) (.bool s.same)).alloc (.cells #[.int .i64 a, .int .i64 b, .int .i64 cs, .int .i64 d, .int .i64 e] 45)).alloc (.cells #[.slice none 0 0, .slice none 0 0, .slice none 0 0, .int .i64 0, .slice none 0 0, .int .i64 0, .slice none 0 0, .bool false] 28)
  have p0 := (Q5.new (w.alloc (.cells #[.slice x.A s.rows.length x.a, .slice x.R s.sp.refs.length x.r, .slice x.L s.sp.last.length x.l, .int .i64 s.txg, .slice x.G s.gone.length x.g, .int .i64 s.keep, .slice x.D s.dead.length x.d, .bool s.same] 28)) a b cs d e).alloc (.cells #[.slice none 0 0, .slice none 0 0, .slice none 0 0, .int .i64 0, .slice none 0 0, .int .i64 0, .slice none 0 0, .bool false] 28)
  have c0 := B8.new ((w.alloc (.cells #[.slice x.A s.rows.length x.a, .slice x.R s.sp.refs.length x.r, .slice x.L s.sp.last.length x.l, .int .i64 s.txg, .slice x.G s.gone.length x.g, .int .i64 s.keep, .slice x.D s.dead.length x.d, .bool s.same] 28)).alloc (.cells #[.int .i64 a, .int .i64 b, .int .i64 cs, .int .i64 d, .int .i64 e] 45)) 28 (.slice none 0 0) (.slice none 0 0) (.slice none 0 0) (.int .i64 0) (.slice none 0 0) (.int .i64 0) (.slice none 0 0) (.bool false)
  rw [World.size_alloc] at p0
  rw [World.size_alloc, World.size_alloc] at c0
  have B0 := bel_new (bel_new (bel_new (Below.refl w.heap.size w) (.cells #[.slice x.A s.rows.length x.a, .slice x.R s.sp.refs.length x.r, .slice x.L s.sp.last.length x.l, .int .i64 s.txg, .slice x.G s.gone.length x.g, .int .i64 s.keep, .slice x.D s.dead.length x.d, .bool s.same] 28)) (.cells #[.int .i64 a, .int .i64 b, .int .i64 cs, .int .i64 d, .int .i64 e] 45)) (.cells #[.slice none 0 0, .slice none 0 0, .slice none 0 0, .int .i64 0, .slice none 0 0, .int .i64 0, .slice none 0 0, .bool false] 28)
  have sz : (((w.alloc (.cells #[.slice x.A s.rows.length x.a, .slice x.R s.sp.refs.length x.r, .slice x.L s.sp.last.length x.l, .int .i64 s.txg, .slice x.G s.gone.length x.g, .int .i64 s.keep, .slice x.D s.dead.length x.d, .bool s.same] 28)).alloc (.cells #[.int .i64 a, .int .i64 b, .int .i64 cs, .int .i64 d, .int .i64 e] 45)).alloc (.cells #[.slice none 0 0, .slice none 0 0, .slice none 0 0, .int .i64 0, .slice none 0 0, .int .i64 0, .slice none 0 0, .bool false] 28)).heap.size = w.heap.size + 1 + 1 + 1 := by rw [World.size_alloc, World.size_alloc, World.size_alloc]
  have HOO := spec_sok x s _ hs (hA.below B0)
  have hP : ∀ W, Calls Try.prog 50 #[.agg #[.int .i64 a, .int .i64 b, .int .i64 cs, .int .i64 d, .int .i64 e]] W fun r w' => r = .returned (.bool (isOk a b cs d e)) ∧ Below W.heap.size W w' := fun W => (spec_pok a b cs d e W).mono fun r w' ⟨h1, h2⟩ => ⟨h1, by subst h2; first | exact bel_new (bel_new (Below.refl _ _) _) _ | exact bel_new (Below.refl _ _) _⟩
  have hH : ∀ W, Calls Try.prog 51 #[.agg #[.int .i64 a, .int .i64 b, .int .i64 cs, .int .i64 d, .int .i64 e]] W fun r w' => r = .returned (.bool (isHole a b cs d e)) ∧ Below W.heap.size W w' := fun W => (spec_hole a b cs d e W).mono fun r w' ⟨h1, h2⟩ => ⟨h1, by subst h2; exact bel_new (Below.refl _ _) _⟩
  by_cases hok : StOk s
  case neg =>
    rw [okSt_no hok] at HOO
    have hn : ¬ freeOk s (⟨a, b, cs, d, e⟩ : P5) := fun h => hok h.1
    rw [freeS_no hn, freeF_no hn]
    clear hs hA hok hn hP hH
    go_enter Try.func26, Try.ntmps26
    go_upto_region 1 with fail
    obtain ⟨W0, hW0⟩ : ∃ W, W = (((w.alloc (.cells #[.slice x.A s.rows.length x.a, .slice x.R s.sp.refs.length x.r, .slice x.L s.sp.last.length x.l, .int .i64 s.txg, .slice x.G s.gone.length x.g, .int .i64 s.keep, .slice x.D s.dead.length x.d, .bool s.same] 28)).alloc (.cells #[.int .i64 a, .int .i64 b, .int .i64 cs, .int .i64 d, .int .i64 e] 45)).alloc (.cells #[.slice none 0 0, .slice none 0 0, .slice none 0 0, .int .i64 0, .slice none 0 0, .int .i64 0, .slice none 0 0, .bool false] 28)) := ⟨_, rfl⟩
    rw [← hW0] at a0 p0 c0 B0 sz HOO ⊢
    clear hW0
    replace sz := Nat.le_of_eq sz.symm
    obtain ⟨x0, x1, x2, x3, x4, x5, x6, x7⟩ := a0.cells
    obtain ⟨v0, v1, v2, v3, v4⟩ := p0.cells
    go_wp2_with (go_at_call 17; refine (HOO).mono ?_; rintro r w1 ⟨rfl, hb1⟩; refine Hid.out ?_)
    refine Lib.hid ?_
    clear x0 x1 x2 x3 x4 x5 x6 x7 v0 v1 v2 v3 v4
    have a1 := a0.below hb1
    have p1 := p0.below hb1
    have c1 := c0.below hb1
    have B1 := bel_then B0 hb1
    have s1 := Nat.le_trans sz hb1.size
    clear a0 p0 c0 B0 hb1
    obtain ⟨x0, x1, x2, x3, x4, x5, x6, x7⟩ := a1.cells
    obtain ⟨v0, v1, v2, v3, v4⟩ := p1.cells
    obtain ⟨z0, z1, z2, z3, z4, z5, z6, z7⟩ := c1.cells
    obtain ⟨f0, f1, f2, f3, f4, f5, f6, f7⟩ := c1.fro
    go_wp2_with fail
    obtain ⟨q0, q1, q2, q3, q4, q5, q6, q7⟩ := (set8_box (u0 := .slice none 0 0) (u1 := .slice none 0 0) (u2 := .slice none 0 0) (u3 := .int .i64 0) (u4 := .slice none 0 0) (u5 := .int .i64 0) (u6 := .slice none 0 0) (u7 := .bool false) c1).cells
    exact bodyPost_ret (v := .tuple #[.agg #[.slice none 0 0, .slice none 0 0, .slice none 0 0, .int .i64 0, .slice none 0 0, .int .i64 0, .slice none 0 0, .bool false], .bool false]) (by simp [results, Try.f26, go_sem, q0, q1, q2, q3, q4, q5, q6, q7]) rfl ⟨SA.none, rfl, own_none _ _ _, set8_bel (u0 := .slice none 0 0) (u1 := .slice none 0 0) (u2 := .slice none 0 0) (u3 := .int .i64 0) (u4 := .slice none 0 0) (u5 := .int .i64 0) (u6 := .slice none 0 0) (u7 := .bool false) B1 (by omega)⟩
  rw [okSt_yes hok] at HOO
  have htx := hok.txg
  cases hp : isOk a b cs d e with
  | false =>
    have hn : ¬ freeOk s (⟨a, b, cs, d, e⟩ : P5) := fun h => by have := h.2.1; rw [show P5.ok (⟨a, b, cs, d, e⟩ : P5) = isOk a b cs d e from rfl, hp] at this; cases this
    rw [freeS_no hn, freeF_no hn]
    simp only [hp] at hP
    clear hs hA hok hn hH hp
    go_enter Try.func26, Try.ntmps26
    go_upto_region 1 with fail
    obtain ⟨W0, hW0⟩ : ∃ W, W = (((w.alloc (.cells #[.slice x.A s.rows.length x.a, .slice x.R s.sp.refs.length x.r, .slice x.L s.sp.last.length x.l, .int .i64 s.txg, .slice x.G s.gone.length x.g, .int .i64 s.keep, .slice x.D s.dead.length x.d, .bool s.same] 28)).alloc (.cells #[.int .i64 a, .int .i64 b, .int .i64 cs, .int .i64 d, .int .i64 e] 45)).alloc (.cells #[.slice none 0 0, .slice none 0 0, .slice none 0 0, .int .i64 0, .slice none 0 0, .int .i64 0, .slice none 0 0, .bool false] 28)) := ⟨_, rfl⟩
    rw [← hW0] at a0 p0 c0 B0 sz HOO ⊢
    clear hW0
    replace sz := Nat.le_of_eq sz.symm
    obtain ⟨x0, x1, x2, x3, x4, x5, x6, x7⟩ := a0.cells
    obtain ⟨v0, v1, v2, v3, v4⟩ := p0.cells
    go_wp2_with (go_at_call 17; refine (HOO).mono ?_; rintro r w1 ⟨rfl, hb1⟩; refine Hid.out ?_)
    refine Lib.hid ?_
    clear x0 x1 x2 x3 x4 x5 x6 x7 v0 v1 v2 v3 v4
    have a1 := a0.below hb1
    have p1 := p0.below hb1
    have c1 := c0.below hb1
    have B1 := bel_then B0 hb1
    have s1 := Nat.le_trans sz hb1.size
    clear a0 p0 c0 B0 hb1
    obtain ⟨x0, x1, x2, x3, x4, x5, x6, x7⟩ := a1.cells
    obtain ⟨v0, v1, v2, v3, v4⟩ := p1.cells
    go_wp2_with (go_at_call 50; refine (hP _).mono ?_; rintro r w2 ⟨rfl, hb2⟩; refine Hid.out ?_)
    refine Lib.hid ?_
    clear x0 x1 x2 x3 x4 x5 x6 x7 v0 v1 v2 v3 v4
    have a2 := a1.below hb2
    have p2 := p1.below hb2
    have c2 := c1.below hb2
    have B2 := bel_then B1 hb2
    have s2 := Nat.le_trans s1 hb2.size
    clear a1 p1 c1 B1 hb2
    obtain ⟨x0, x1, x2, x3, x4, x5, x6, x7⟩ := a2.cells
    obtain ⟨v0, v1, v2, v3, v4⟩ := p2.cells
    obtain ⟨z0, z1, z2, z3, z4, z5, z6, z7⟩ := c2.cells
    obtain ⟨f0, f1, f2, f3, f4, f5, f6, f7⟩ := c2.fro
    go_wp2_with fail
    obtain ⟨q0, q1, q2, q3, q4, q5, q6, q7⟩ := (set8_box (u0 := .slice none 0 0) (u1 := .slice none 0 0) (u2 := .slice none 0 0) (u3 := .int .i64 0) (u4 := .slice none 0 0) (u5 := .int .i64 0) (u6 := .slice none 0 0) (u7 := .bool false) c2).cells
    exact bodyPost_ret (v := .tuple #[.agg #[.slice none 0 0, .slice none 0 0, .slice none 0 0, .int .i64 0, .slice none 0 0, .int .i64 0, .slice none 0 0, .bool false], .bool false]) (by simp [results, Try.f26, go_sem, q0, q1, q2, q3, q4, q5, q6, q7]) rfl ⟨SA.none, rfl, own_none _ _ _, set8_bel (u0 := .slice none 0 0) (u1 := .slice none 0 0) (u2 := .slice none 0 0) (u3 := .int .i64 0) (u4 := .slice none 0 0) (u5 := .int .i64 0) (u6 := .slice none 0 0) (u7 := .bool false) B2 (by omega)⟩
  | true =>
    simp only [hp] at hP
    have hp' : P5.ok (⟨a, b, cs, d, e⟩ : P5) = true := hp
    by_cases ht : s.txg < b
    · have hn : ¬ freeOk s (⟨a, b, cs, d, e⟩ : P5) := fun h => by have := h.2.2.1; simp only at this; omega
      rw [freeS_no hn, freeF_no hn]
      clear hs hA hok hn hH hp hp'
      go_enter Try.func26, Try.ntmps26
      go_upto_region 1 with fail
      obtain ⟨W0, hW0⟩ : ∃ W, W = (((w.alloc (.cells #[.slice x.A s.rows.length x.a, .slice x.R s.sp.refs.length x.r, .slice x.L s.sp.last.length x.l, .int .i64 s.txg, .slice x.G s.gone.length x.g, .int .i64 s.keep, .slice x.D s.dead.length x.d, .bool s.same] 28)).alloc (.cells #[.int .i64 a, .int .i64 b, .int .i64 cs, .int .i64 d, .int .i64 e] 45)).alloc (.cells #[.slice none 0 0, .slice none 0 0, .slice none 0 0, .int .i64 0, .slice none 0 0, .int .i64 0, .slice none 0 0, .bool false] 28)) := ⟨_, rfl⟩
      rw [← hW0] at a0 p0 c0 B0 sz HOO ⊢
      clear hW0
      replace sz := Nat.le_of_eq sz.symm
      obtain ⟨x0, x1, x2, x3, x4, x5, x6, x7⟩ := a0.cells
      obtain ⟨v0, v1, v2, v3, v4⟩ := p0.cells
      go_wp2_with (go_at_call 17; refine (HOO).mono ?_; rintro r w1 ⟨rfl, hb1⟩; refine Hid.out ?_)
      refine Lib.hid ?_
      clear x0 x1 x2 x3 x4 x5 x6 x7 v0 v1 v2 v3 v4
      have a1 := a0.below hb1
      have p1 := p0.below hb1
      have c1 := c0.below hb1
      have B1 := bel_then B0 hb1
      have s1 := Nat.le_trans sz hb1.size
      clear a0 p0 c0 B0 hb1
      obtain ⟨x0, x1, x2, x3, x4, x5, x6, x7⟩ := a1.cells
      obtain ⟨v0, v1, v2, v3, v4⟩ := p1.cells
      go_wp2_with (go_at_call 50; refine (hP _).mono ?_; rintro r w2 ⟨rfl, hb2⟩; refine Hid.out ?_)
      refine Lib.hid ?_
      clear x0 x1 x2 x3 x4 x5 x6 x7 v0 v1 v2 v3 v4
      have a2 := a1.below hb2
      have p2 := p1.below hb2
      have c2 := c1.below hb2
      have B2 := bel_then B1 hb2
      have s2 := Nat.le_trans s1 hb2.size
      clear a1 p1 c1 B1 hb2
      obtain ⟨x0, x1, x2, x3, x4, x5, x6, x7⟩ := a2.cells
      obtain ⟨v0, v1, v2, v3, v4⟩ := p2.cells
      obtain ⟨z0, z1, z2, z3, z4, z5, z6, z7⟩ := c2.cells
      obtain ⟨f0, f1, f2, f3, f4, f5, f6, f7⟩ := c2.fro
      go_wp2_with fail
      obtain ⟨q0, q1, q2, q3, q4, q5, q6, q7⟩ := (set8_box (u0 := .slice none 0 0) (u1 := .slice none 0 0) (u2 := .slice none 0 0) (u3 := .int .i64 0) (u4 := .slice none 0 0) (u5 := .int .i64 0) (u6 := .slice none 0 0) (u7 := .bool false) c2).cells
      exact bodyPost_ret (v := .tuple #[.agg #[.slice none 0 0, .slice none 0 0, .slice none 0 0, .int .i64 0, .slice none 0 0, .int .i64 0, .slice none 0 0, .bool false], .bool false]) (by simp [results, Try.f26, go_sem, q0, q1, q2, q3, q4, q5, q6, q7]) rfl ⟨SA.none, rfl, own_none _ _ _, set8_bel (u0 := .slice none 0 0) (u1 := .slice none 0 0) (u2 := .slice none 0 0) (u3 := .int .i64 0) (u4 := .slice none 0 0) (u5 := .int .i64 0) (u6 := .slice none 0 0) (u7 := .bool false) B2 (by omega)⟩
    · have hcp := fun W (hW : Below w.heap.size w W) => spec_l7copy x s W hs hok.sp.1 hok.sp.2.1 (hA.below hW)
      unfold TPost at hcp
      cases hh : isHole a b cs d e with
      | true =>
        have hn : freeOk s (⟨a, b, cs, d, e⟩ : P5) := ⟨hok, hp', by simp only; omega, .inl hh⟩
        rw [freeS_yes hn, freeF_yes hn]
        have hF := fun y W b0 t h1 h2 => spec_l7free y s a b cs d e W b0 t hok hs.gone hs.dead hn h1 h2
        unfold NxPost at hF
        obtain ⟨fs, hfs⟩ : ∃ n, n = freeSt s (⟨a, b, cs, d, e⟩ : P5) := ⟨_, rfl⟩
        simp only [← hfs] at hF ⊢
        simp only [hh] at hH
        clear hs hA hok hn hp hp' hfs hh
        go_enter Try.func26, Try.ntmps26
        go_upto_region 1 with fail
        obtain ⟨W0, hW0⟩ : ∃ W, W = (((w.alloc (.cells #[.slice x.A s.rows.length x.a, .slice x.R s.sp.refs.length x.r, .slice x.L s.sp.last.length x.l, .int .i64 s.txg, .slice x.G s.gone.length x.g, .int .i64 s.keep, .slice x.D s.dead.length x.d, .bool s.same] 28)).alloc (.cells #[.int .i64 a, .int .i64 b, .int .i64 cs, .int .i64 d, .int .i64 e] 45)).alloc (.cells #[.slice none 0 0, .slice none 0 0, .slice none 0 0, .int .i64 0, .slice none 0 0, .int .i64 0, .slice none 0 0, .bool false] 28)) := ⟨_, rfl⟩
        rw [← hW0] at a0 p0 c0 B0 sz HOO ⊢
        clear hW0
        replace sz := Nat.le_of_eq sz.symm
        obtain ⟨x0, x1, x2, x3, x4, x5, x6, x7⟩ := a0.cells
        obtain ⟨v0, v1, v2, v3, v4⟩ := p0.cells
        go_wp2_with (go_at_call 17; refine (HOO).mono ?_; rintro r w1 ⟨rfl, hb1⟩; refine Hid.out ?_)
        refine Lib.hid ?_
        clear x0 x1 x2 x3 x4 x5 x6 x7 v0 v1 v2 v3 v4
        have a1 := a0.below hb1
        have p1 := p0.below hb1
        have c1 := c0.below hb1
        have B1 := bel_then B0 hb1
        have s1 := Nat.le_trans sz hb1.size
        clear a0 p0 c0 B0 hb1
        obtain ⟨x0, x1, x2, x3, x4, x5, x6, x7⟩ := a1.cells
        obtain ⟨v0, v1, v2, v3, v4⟩ := p1.cells
        go_wp2_with (go_at_call 50; refine (hP _).mono ?_; rintro r w2 ⟨rfl, hb2⟩; refine Hid.out ?_)
        refine Lib.hid ?_
        clear x0 x1 x2 x3 x4 x5 x6 x7 v0 v1 v2 v3 v4
        have a2 := a1.below hb2
        have p2 := p1.below hb2
        have c2 := c1.below hb2
        have B2 := bel_then B1 hb2
        have s2 := Nat.le_trans s1 hb2.size
        clear a1 p1 c1 B1 hb2
        obtain ⟨x0, x1, x2, x3, x4, x5, x6, x7⟩ := a2.cells
        obtain ⟨v0, v1, v2, v3, v4⟩ := p2.cells
        go_wp2_with (go_at_call 51; refine (hH _).mono ?_; rintro r w3 ⟨rfl, hb3⟩; refine Hid.out ?_)
        refine Lib.hid ?_
        clear x0 x1 x2 x3 x4 x5 x6 x7 v0 v1 v2 v3 v4
        have a3 := a2.below hb3
        have p3 := p2.below hb3
        have c3 := c2.below hb3
        have B3 := bel_then B2 hb3
        have s3 := Nat.le_trans s2 hb3.size
        clear a2 p2 c2 B2 hb3
        have L1 := hcp _ B3.drew
        have s3d := Nat.le_trans s3 (Nat.le_of_eq (World.size_drew _).symm)
        obtain ⟨x0, x1, x2, x3, x4, x5, x6, x7⟩ := a3.cells
        obtain ⟨v0, v1, v2, v3, v4⟩ := p3.cells
        have hl1 : w.heap.size + 1 < w3.heap.size := by omega
        go_upto_region 3 with fail
        go_region_with (first
          | (go_at_call 65; refine (hF y wa _ _ (Nat.le_refl _) O).mono ?_; rintro rr wb ⟨y2, rfl, O2, hbb⟩; have ca := (c3.drew.below hba).belowB hbb (by omega); obtain ⟨z0, z1, z2, z3, z4, z5, z6, z7⟩ := ca.cells; obtain ⟨f0, f1, f2, f3, f4, f5, f6, f7⟩ := ca.fro)
          | (go_at_call 61; refine L1.mono ?_; rintro rr wa ⟨y, rfl, O, hba⟩; have hba2 := hba.size; obtain ⟨v0, v1, v2, v3, v4⟩ := (p3.drew.below hba).cells))
        all_goals have BW := (bel_then B3.drew hba).trans (hbb.mono (by omega))
        all_goals (
          have FN := Fin8.mk2 (x := y2) (s := fs) (H := w.heap.size + 1 + 1) ca (by omega) (by omega) O2 BW
          have HF := Lib.hid FN
          clear FN
          go_wp2_with fail
          change bodyPost Try.prog Try.f26 _ Exit.ret _ (putS wb (w.heap.size + 1 + 1) y2 fs)
          have HF := HF.out
          generalize putS _ _ _ _ = WF at HF ⊢
          clear z0 z1 z2 z3 z4 z5 z6 z7 f0 f1 f2 f3 f4 f5 f6 f7
          obtain ⟨⟨q0, q1, q2, q3, q4, q5, q6, q7⟩, ho, hb⟩ := (⟨HF.box.cells, HF.own, HF.bel⟩ : _ ∧ _ ∧ _)
          exact bodyPost_ret (v := .tuple #[.agg #[.slice y2.A fs.rows.length y2.a, .slice y2.R fs.sp.refs.length y2.r, .slice y2.L fs.sp.last.length y2.l, .int .i64 fs.txg, .slice y2.G fs.gone.length y2.g, .int .i64 fs.keep, .slice y2.D fs.dead.length y2.d, .bool fs.same], .bool true]) (by simp [results, Try.f26, go_sem, q0, q1, q2, q3, q4, q5, q6, q7]) rfl ⟨y2, rfl, ho, hb⟩)
      | false =>
        simp only [hh] at hH
        have hpr := P5.ok_bounds hp' hh
        simp only at hpr
        obtain ⟨n, hna⟩ : ∃ n : Nat, a = (n : Int) := ⟨a.toNat, by omega⟩
        have hn64 : n < s.sp.refs.length := by rw [hok.sp.1]; omega
        have hg : s.sp.refs.getD n 0 = s.sp.refs[n] := by rw [List.getD_eq_getElem?_getD, List.getElem?_eq_getElem hn64, Option.getD_some]
        have hR := fun W (hW : Below w.heap.size w W) => (hA.sp.1.below hW).int n hn64
        have hnL : (n : Int) < (s.sp.refs.length : Int) := by omega
        obtain ⟨u, hu⟩ : ∃ u, u = s.sp.refs[n] := ⟨_, rfl⟩
        simp only [← hu] at hg hR
        subst hna
        by_cases hu0 : u = 0
        · have hn : ¬ freeOk s (⟨(n : Int), b, cs, d, e⟩ : P5) := fun h => by
            rcases h.2.2.2 with h | h
            · rw [show P5.hole (⟨(n : Int), b, cs, d, e⟩ : P5) = isHole n b cs d e from rfl, hh] at h; cases h
            · exact h (by simp only [Int.toNat_natCast]; rw [hg, hu0])
          rw [freeS_no hn, freeF_no hn]
          subst hu0
          clear hs hA hok hn hp hp' hg hu hcp hh hpr
          go_enter Try.func26, Try.ntmps26
          go_upto_region 1 with fail
          obtain ⟨W0, hW0⟩ : ∃ W, W = (((w.alloc (.cells #[.slice x.A s.rows.length x.a, .slice x.R s.sp.refs.length x.r, .slice x.L s.sp.last.length x.l, .int .i64 s.txg, .slice x.G s.gone.length x.g, .int .i64 s.keep, .slice x.D s.dead.length x.d, .bool s.same] 28)).alloc (.cells #[.int .i64 (n : Int), .int .i64 b, .int .i64 cs, .int .i64 d, .int .i64 e] 45)).alloc (.cells #[.slice none 0 0, .slice none 0 0, .slice none 0 0, .int .i64 0, .slice none 0 0, .int .i64 0, .slice none 0 0, .bool false] 28)) := ⟨_, rfl⟩
          rw [← hW0] at a0 p0 c0 B0 sz HOO ⊢
          clear hW0
          replace sz := Nat.le_of_eq sz.symm
          obtain ⟨x0, x1, x2, x3, x4, x5, x6, x7⟩ := a0.cells
          obtain ⟨v0, v1, v2, v3, v4⟩ := p0.cells
          go_wp2_with (go_at_call 17; refine (HOO).mono ?_; rintro r w1 ⟨rfl, hb1⟩; refine Hid.out ?_)
          refine Lib.hid ?_
          clear x0 x1 x2 x3 x4 x5 x6 x7 v0 v1 v2 v3 v4
          have a1 := a0.below hb1
          have p1 := p0.below hb1
          have c1 := c0.below hb1
          have B1 := bel_then B0 hb1
          have s1 := Nat.le_trans sz hb1.size
          clear a0 p0 c0 B0 hb1
          obtain ⟨x0, x1, x2, x3, x4, x5, x6, x7⟩ := a1.cells
          obtain ⟨v0, v1, v2, v3, v4⟩ := p1.cells
          go_wp2_with (go_at_call 50; refine (hP _).mono ?_; rintro r w2 ⟨rfl, hb2⟩; refine Hid.out ?_)
          refine Lib.hid ?_
          clear x0 x1 x2 x3 x4 x5 x6 x7 v0 v1 v2 v3 v4
          have a2 := a1.below hb2
          have p2 := p1.below hb2
          have c2 := c1.below hb2
          have B2 := bel_then B1 hb2
          have s2 := Nat.le_trans s1 hb2.size
          clear a1 p1 c1 B1 hb2
          obtain ⟨x0, x1, x2, x3, x4, x5, x6, x7⟩ := a2.cells
          obtain ⟨v0, v1, v2, v3, v4⟩ := p2.cells
          go_wp2_with (go_at_call 51; refine (hH _).mono ?_; rintro r w3 ⟨rfl, hb3⟩; refine Hid.out ?_)
          refine Lib.hid ?_
          clear x0 x1 x2 x3 x4 x5 x6 x7 v0 v1 v2 v3 v4
          have a3 := a2.below hb3
          have p3 := p2.below hb3
          have c3 := c2.below hb3
          have B3 := bel_then B2 hb3
          have s3 := Nat.le_trans s2 hb3.size
          clear a2 p2 c2 B2 hb3
          obtain ⟨bR, oR, hxR, hlR, hcR⟩ := hR w3 B3
          obtain ⟨xA, xa, xR, xr, xL, xl, xG, xg, xD, xd⟩ := x
          dsimp only at *
          subst hxR
          obtain ⟨x0, x1, x2, x3, x4, x5, x6, x7⟩ := a3.cells
          obtain ⟨v0, v1, v2, v3, v4⟩ := p3.cells
          obtain ⟨z0, z1, z2, z3, z4, z5, z6, z7⟩ := c3.cells
          obtain ⟨f0, f1, f2, f3, f4, f5, f6, f7⟩ := c3.fro
          go_wp2_with fail
          obtain ⟨q0, q1, q2, q3, q4, q5, q6, q7⟩ := (set8_box (u0 := .slice none 0 0) (u1 := .slice none 0 0) (u2 := .slice none 0 0) (u3 := .int .i64 0) (u4 := .slice none 0 0) (u5 := .int .i64 0) (u6 := .slice none 0 0) (u7 := .bool false) c3).cells
          exact bodyPost_ret (v := .tuple #[.agg #[.slice none 0 0, .slice none 0 0, .slice none 0 0, .int .i64 0, .slice none 0 0, .int .i64 0, .slice none 0 0, .bool false], .bool false]) (by simp [results, Try.f26, go_sem, q0, q1, q2, q3, q4, q5, q6, q7]) rfl ⟨SA.none, rfl, own_none _ _ _, set8_bel (u0 := .slice none 0 0) (u1 := .slice none 0 0) (u2 := .slice none 0 0) (u3 := .int .i64 0) (u4 := .slice none 0 0) (u5 := .int .i64 0) (u6 := .slice none 0 0) (u7 := .bool false) B3 (by omega)⟩
        · have hn : freeOk s (⟨(n : Int), b, cs, d, e⟩ : P5) := ⟨hok, hp', by simp only; omega, .inr (by simp only [Int.toNat_natCast]; rw [hg]; exact hu0)⟩
          rw [freeS_yes hn, freeF_yes hn]
          have hF := fun y W b0 t h1 h2 => spec_l7free y s n b cs d e W b0 t hok hs.gone hs.dead hn h1 h2
          unfold NxPost at hF
          obtain ⟨fs, hfs⟩ : ∃ q, q = freeSt s (⟨(n : Int), b, cs, d, e⟩ : P5) := ⟨_, rfl⟩
          simp only [← hfs] at hF ⊢
          have hu9 : (u == 0) = false := by simpa using hu0
          clear hs hA hok hn hp hp' hg hu hh hfs hpr
          go_enter Try.func26, Try.ntmps26
          go_upto_region 1 with fail
          obtain ⟨W0, hW0⟩ : ∃ W, W = (((w.alloc (.cells #[.slice x.A s.rows.length x.a, .slice x.R s.sp.refs.length x.r, .slice x.L s.sp.last.length x.l, .int .i64 s.txg, .slice x.G s.gone.length x.g, .int .i64 s.keep, .slice x.D s.dead.length x.d, .bool s.same] 28)).alloc (.cells #[.int .i64 (n : Int), .int .i64 b, .int .i64 cs, .int .i64 d, .int .i64 e] 45)).alloc (.cells #[.slice none 0 0, .slice none 0 0, .slice none 0 0, .int .i64 0, .slice none 0 0, .int .i64 0, .slice none 0 0, .bool false] 28)) := ⟨_, rfl⟩
          rw [← hW0] at a0 p0 c0 B0 sz HOO ⊢
          clear hW0
          replace sz := Nat.le_of_eq sz.symm
          obtain ⟨x0, x1, x2, x3, x4, x5, x6, x7⟩ := a0.cells
          obtain ⟨v0, v1, v2, v3, v4⟩ := p0.cells
          go_wp2_with (go_at_call 17; refine (HOO).mono ?_; rintro r w1 ⟨rfl, hb1⟩; refine Hid.out ?_)
          refine Lib.hid ?_
          clear x0 x1 x2 x3 x4 x5 x6 x7 v0 v1 v2 v3 v4
          have a1 := a0.below hb1
          have p1 := p0.below hb1
          have c1 := c0.below hb1
          have B1 := bel_then B0 hb1
          have s1 := Nat.le_trans sz hb1.size
          clear a0 p0 c0 B0 hb1
          obtain ⟨x0, x1, x2, x3, x4, x5, x6, x7⟩ := a1.cells
          obtain ⟨v0, v1, v2, v3, v4⟩ := p1.cells
          go_wp2_with (go_at_call 50; refine (hP _).mono ?_; rintro r w2 ⟨rfl, hb2⟩; refine Hid.out ?_)
          refine Lib.hid ?_
          clear x0 x1 x2 x3 x4 x5 x6 x7 v0 v1 v2 v3 v4
          have a2 := a1.below hb2
          have p2 := p1.below hb2
          have c2 := c1.below hb2
          have B2 := bel_then B1 hb2
          have s2 := Nat.le_trans s1 hb2.size
          clear a1 p1 c1 B1 hb2
          obtain ⟨x0, x1, x2, x3, x4, x5, x6, x7⟩ := a2.cells
          obtain ⟨v0, v1, v2, v3, v4⟩ := p2.cells
          go_wp2_with (go_at_call 51; refine (hH _).mono ?_; rintro r w3 ⟨rfl, hb3⟩; refine Hid.out ?_)
          refine Lib.hid ?_
          clear x0 x1 x2 x3 x4 x5 x6 x7 v0 v1 v2 v3 v4
          have a3 := a2.below hb3
          have p3 := p2.below hb3
          have c3 := c2.below hb3
          have B3 := bel_then B2 hb3
          have s3 := Nat.le_trans s2 hb3.size
          clear a2 p2 c2 B2 hb3
          obtain ⟨bR, oR, hxR, hlR, hcR⟩ := hR w3 B3
          obtain ⟨xA, xa, xR, xr, xL, xl, xG, xg, xD, xd⟩ := x
          dsimp only at *
          subst hxR
          have L1 := hcp _ B3.drew
          have s3d := Nat.le_trans s3 (Nat.le_of_eq (World.size_drew _).symm)
          obtain ⟨x0, x1, x2, x3, x4, x5, x6, x7⟩ := a3.cells
          obtain ⟨v0, v1, v2, v3, v4⟩ := p3.cells
          have hl1 : w.heap.size + 1 < w3.heap.size := by omega
          go_upto_region 3 with fail
          go_region_with (first
            | (go_at_call 65; refine (hF y wa _ _ (Nat.le_refl _) O).mono ?_; rintro rr wb ⟨y2, rfl, O2, hbb⟩; have ca := (c3.drew.below hba).belowB hbb (by omega); obtain ⟨z0, z1, z2, z3, z4, z5, z6, z7⟩ := ca.cells; obtain ⟨f0, f1, f2, f3, f4, f5, f6, f7⟩ := ca.fro)
            | (go_at_call 61; refine L1.mono ?_; rintro rr wa ⟨y, rfl, O, hba⟩; have hba2 := hba.size; obtain ⟨v0, v1, v2, v3, v4⟩ := (p3.drew.below hba).cells))
          all_goals have BW := (bel_then B3.drew hba).trans (hbb.mono (by omega))
          all_goals (
            have FN := Fin8.mk2 (x := y2) (s := fs) (H := w.heap.size + 1 + 1) ca (by omega) (by omega) O2 BW
            have HF := Lib.hid FN
            clear FN
            go_wp2_with fail
            change bodyPost Try.prog Try.f26 _ Exit.ret _ (putS wb (w.heap.size + 1 + 1) y2 fs)
            have HF := HF.out
            generalize putS _ _ _ _ = WF at HF ⊢
            clear z0 z1 z2 z3 z4 z5 z6 z7 f0 f1 f2 f3 f4 f5 f6 f7
            obtain ⟨⟨q0, q1, q2, q3, q4, q5, q6, q7⟩, ho, hb⟩ := (⟨HF.box.cells, HF.own, HF.bel⟩ : _ ∧ _ ∧ _)
            exact bodyPost_ret (v := .tuple #[.agg #[.slice y2.A fs.rows.length y2.a, .slice y2.R fs.sp.refs.length y2.r, .slice y2.L fs.sp.last.length y2.l, .int .i64 fs.txg, .slice y2.G fs.gone.length y2.g, .int .i64 fs.keep, .slice y2.D fs.dead.length y2.d, .bool fs.same], .bool true]) (by simp [results, Try.f26, go_sem, q0, q1, q2, q3, q4, q5, q6, q7]) rfl ⟨y2, rfl, ho, hb⟩)
end Go.Proofs.Ytmnamclndpfjnaa
