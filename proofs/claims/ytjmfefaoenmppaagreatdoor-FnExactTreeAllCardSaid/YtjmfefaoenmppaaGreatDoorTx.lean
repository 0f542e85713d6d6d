/-
  A law's copy of a tree; how a tree that a law is called with is opened.
-/
import Derived.Test.YtjmfefaoenmppaaGreatDoorTw
import Derived.Test.YtjmfefaoenmppaaGreatDoorKD
namespace Go.Proofs.YtjmfefaoenmppaaGreatDoor
open Go.RowKit

theorem set7_bel {B : Nat} {u W : World} (h : Below B u W) {g : Nat} (hg : B ≤ g) (a b c d e dep many : Int) : Below B u (((((((W.setCell ⟨g, 0, none⟩ (.int .i64 a)).setCell ⟨g, 1, none⟩ (.int .i64 b)).setCell ⟨g, 2, none⟩ (.int .i64 c)).setCell ⟨g, 3, none⟩ (.int .i64 d)).setCell ⟨g, 4, none⟩ (.int .i64 e)).setCell ⟨g, 5, none⟩ (.int .i64 dep)).setCell ⟨g, 6, none⟩ (.int .i64 many)) :=
  ((((((h.setCell (p := ⟨g, 0, none⟩) hg _).setCell (p := ⟨g, 1, none⟩) hg _).setCell (p := ⟨g, 2, none⟩) hg _).setCell (p := ⟨g, 3, none⟩) hg _).setCell (p := ⟨g, 4, none⟩) hg _).setCell (p := ⟨g, 5, none⟩) hg _).setCell (p := ⟨g, 6, none⟩) hg _
set_option maxRecDepth 100000 in
set_option maxHeartbeats 4000000 in
theorem to_tree (a b c d e dep many : Int) (w : World) : Calls Tryz.prog 13 #[.agg #[.int .i64 a, .int .i64 b, .int .i64 c, .int .i64 d, .int .i64 e, .int .i64 dep, .int .i64 many]] w fun r w' => r = .returned (.agg #[.int .i64 a, .int .i64 b, .int .i64 c, .int .i64 d, .int .i64 e, .int .i64 dep, .int .i64 many]) ∧ Below w.heap.size w w' := by
  have t0 := ((B7.new w a b c d e dep many 32).below (bel_new (Below.refl _ _) (.cells #[.int .i64 0, .int .i64 0, .int .i64 0, .int .i64 0, .int .i64 0, .int .i64 0, .int .i64 0] 42))).below (bel_new (Below.refl _ _) (.cells #[.int .i64 0, .int .i64 0, .int .i64 0, .int .i64 0, .int .i64 0, .int .i64 0, .int .i64 0] 42))
  have r0 := (B7.new (w.alloc (.cells #[.int .i64 a, .int .i64 b, .int .i64 c, .int .i64 d, .int .i64 e, .int .i64 dep, .int .i64 many] 32)) 0 0 0 0 0 0 0 42).below (bel_new (Below.refl _ _) (.cells #[.int .i64 0, .int .i64 0, .int .i64 0, .int .i64 0, .int .i64 0, .int .i64 0, .int .i64 0] 42))
  have v0 := B7.new ((w.alloc (.cells #[.int .i64 a, .int .i64 b, .int .i64 c, .int .i64 d, .int .i64 e, .int .i64 dep, .int .i64 many] 32)).alloc (.cells #[.int .i64 0, .int .i64 0, .int .i64 0, .int .i64 0, .int .i64 0, .int .i64 0, .int .i64 0] 42)) 0 0 0 0 0 0 0 42
  have BB : Below w.heap.size w (((w.alloc (.cells #[.int .i64 a, .int .i64 b, .int .i64 c, .int .i64 d, .int .i64 e, .int .i64 dep, .int .i64 many] 32)).alloc (.cells #[.int .i64 0, .int .i64 0, .int .i64 0, .int .i64 0, .int .i64 0, .int .i64 0, .int .i64 0] 42)).alloc (.cells #[.int .i64 0, .int .i64 0, .int .i64 0, .int .i64 0, .int .i64 0, .int .i64 0, .int .i64 0] 42)) := bel_new (bel_new (bel_new (Below.refl _ _) _) _) _
  rw [World.size_alloc] at r0
  rw [World.size_alloc, World.size_alloc] at v0
  have s0 : (((w.alloc (.cells #[.int .i64 a, .int .i64 b, .int .i64 c, .int .i64 d, .int .i64 e, .int .i64 dep, .int .i64 many] 32)).alloc (.cells #[.int .i64 0, .int .i64 0, .int .i64 0, .int .i64 0, .int .i64 0, .int .i64 0, .int .i64 0] 42)).alloc (.cells #[.int .i64 0, .int .i64 0, .int .i64 0, .int .i64 0, .int .i64 0, .int .i64 0, .int .i64 0] 42)).heap.size = w.heap.size + 1 + 1 + 1 := by rw [World.size_alloc, World.size_alloc, World.size_alloc]
  have hT := fun W => to_ptr a b c d e W
  go_enter Tryz.func13, Tryz.ntmps13
  go_upto_region 2 with fail
  generalize hW0 : ((w.alloc (.cells #[.int .i64 a, .int .i64 b, .int .i64 c, .int .i64 d, .int .i64 e, .int .i64 dep, .int .i64 many] 32)).alloc (.cells #[.int .i64 0, .int .i64 0, .int .i64 0, .int .i64 0, .int .i64 0, .int .i64 0, .int .i64 0] 42)).alloc (.cells #[.int .i64 0, .int .i64 0, .int .i64 0, .int .i64 0, .int .i64 0, .int .i64 0, .int .i64 0] 42) = W0 at t0 r0 v0 BB s0
  clear hW0
  have S0 := Lib.hid s0
  clear s0
  obtain ⟨y0, y1, y2, y3, y4, y5, y6⟩ := t0.cells
  have hT2 : Calls Tryz.prog 45 #[.agg #[.int .i64 a, .int .i64 b, .int .i64 c, .int .i64 d, .int .i64 e]] W0 fun r w' => r = .returned (.agg #[.int .i64 a, .int .i64 b, .int .i64 c, .int .i64 d, .int .i64 e]) ∧ Below W0.heap.size W0 w' := (hT W0).mono fun r w' ⟨h1, h2⟩ => ⟨h1, h2 ▸ bel_new (bel_new (bel_new (Below.refl _ _) _) _) _⟩
  clear hT
  go_wp2_with (go_at_call 45; refine hT2.mono ?_; rintro r w2 ⟨rfl, hb2⟩; refine Hid.out ?_)
  refine Lib.hid ?_
  have t2 := t0.below hb2
  have r2 := r0.below hb2
  have v2 := v0.below hb2
  have B2w := bel_then BB hb2
  clear t0 r0 v0 y0 y1 y2 y3 y4 y5 y6 hT2 hb2
  obtain ⟨y0, y1, y2, y3, y4, y5, y6⟩ := t2.cells
  obtain ⟨p0, p1, p2, p3, p4, p5, p6⟩ := v2.cells
  obtain ⟨q0, q1, q2, q3, q4, q5, q6⟩ := r2.cells
  have f0 := v2.fro 0
  have f1 := v2.fro 1
  have f2 := v2.fro 2
  have f3 := v2.fro 3
  have f4 := v2.fro 4
  have f5 := v2.fro 5
  have f6 := v2.fro 6
  have g0 := r2.fro 0
  have g1 := r2.fro 1
  have g2 := r2.fro 2
  have g3 := r2.fro 3
  have g4 := r2.fro 4
  have g5 := r2.fro 5
  have g6 := r2.fro 6
  go_wp2_with fail
  have R7 := ((((((r2.set (p := ⟨w.heap.size + 1 + 1, 0, none⟩) (by simp) (.int .i64 a)).set (p := ⟨w.heap.size + 1 + 1, 1, none⟩) (by simp) (.int .i64 b)).set (p := ⟨w.heap.size + 1 + 1, 2, none⟩) (by simp) (.int .i64 c)).set (p := ⟨w.heap.size + 1 + 1, 3, none⟩) (by simp) (.int .i64 d)).set (p := ⟨w.heap.size + 1 + 1, 4, none⟩) (by simp) (.int .i64 e)).set (p := ⟨w.heap.size + 1 + 1, 5, none⟩) (by simp) (.int .i64 dep)).set (p := ⟨w.heap.size + 1 + 1, 6, none⟩) (by simp) (.int .i64 many)
  have RF := R7.fill a b c d e dep many
  have BF := set7_bel (set7_bel B2w (show w.heap.size ≤ w.heap.size + 1 + 1 by omega) a b c d e dep many) (show w.heap.size ≤ w.heap.size + 1 by omega) a b c d e dep many
  change bodyPost Tryz.prog Tryz.f13 _ Exit.ret _ ((((((((((((((w2.setCell ⟨w.heap.size + 1 + 1, 0, none⟩ (.int .i64 a)).setCell ⟨w.heap.size + 1 + 1, 1, none⟩ (.int .i64 b)).setCell ⟨w.heap.size + 1 + 1, 2, none⟩ (.int .i64 c)).setCell ⟨w.heap.size + 1 + 1, 3, none⟩ (.int .i64 d)).setCell ⟨w.heap.size + 1 + 1, 4, none⟩ (.int .i64 e)).setCell ⟨w.heap.size + 1 + 1, 5, none⟩ (.int .i64 dep)).setCell ⟨w.heap.size + 1 + 1, 6, none⟩ (.int .i64 many)).setCell ⟨w.heap.size + 1, 0, none⟩ (.int .i64 a)).setCell ⟨w.heap.size + 1, 1, none⟩ (.int .i64 b)).setCell ⟨w.heap.size + 1, 2, none⟩ (.int .i64 c)).setCell ⟨w.heap.size + 1, 3, none⟩ (.int .i64 d)).setCell ⟨w.heap.size + 1, 4, none⟩ (.int .i64 e)).setCell ⟨w.heap.size + 1, 5, none⟩ (.int .i64 dep)).setCell ⟨w.heap.size + 1, 6, none⟩ (.int .i64 many))
  generalize ((((((((((((((w2.setCell ⟨w.heap.size + 1 + 1, 0, none⟩ (.int .i64 a)).setCell ⟨w.heap.size + 1 + 1, 1, none⟩ (.int .i64 b)).setCell ⟨w.heap.size + 1 + 1, 2, none⟩ (.int .i64 c)).setCell ⟨w.heap.size + 1 + 1, 3, none⟩ (.int .i64 d)).setCell ⟨w.heap.size + 1 + 1, 4, none⟩ (.int .i64 e)).setCell ⟨w.heap.size + 1 + 1, 5, none⟩ (.int .i64 dep)).setCell ⟨w.heap.size + 1 + 1, 6, none⟩ (.int .i64 many)).setCell ⟨w.heap.size + 1, 0, none⟩ (.int .i64 a)).setCell ⟨w.heap.size + 1, 1, none⟩ (.int .i64 b)).setCell ⟨w.heap.size + 1, 2, none⟩ (.int .i64 c)).setCell ⟨w.heap.size + 1, 3, none⟩ (.int .i64 d)).setCell ⟨w.heap.size + 1, 4, none⟩ (.int .i64 e)).setCell ⟨w.heap.size + 1, 5, none⟩ (.int .i64 dep)).setCell ⟨w.heap.size + 1, 6, none⟩ (.int .i64 many)) = WF at RF BF ⊢
  clear R7 f0 f1 f2 f3 f4 f5 f6 g0 g1 g2 g3 g4 g5 g6 y0 y1 y2 y3 y4 y5 y6 p0 p1 p2 p3 p4 p5 p6 q0 q1 q2 q3 q4 q5 q6
  obtain ⟨e0, e1, e2, e3, e4, e5, e6⟩ := RF.cells
  exact bodyPost_ret (v := .agg #[.int .i64 a, .int .i64 b, .int .i64 c, .int .i64 d, .int .i64 e, .int .i64 dep, .int .i64 many]) (by simp [results, Tryz.f13, go_sem, e0, e1, e2, e3, e4, e5, e6]) rfl ⟨rfl, BF⟩

open Go.Joins Go.ChangeShapes Go.WideShapes Go.ChangeAt Go.Deep in
set_option maxRecDepth 100000 in
theorem tree_open {H : Type} {enc : TypeId × Value → H} {W : World} {base b0 : Nat} {spare : Nat → Bool} {held : Bool} {r : Reach} {v : Value} {d : DataW H} {p : List MemPlace}
    (hv : Value.okWide Tryz.prog W r b0 32 v) (h : DataW.Trod enc Tryz.prog W base spare held 32 v d p) : ∃ a b c x y dep many : Int, v = .agg #[.int .i64 a, .int .i64 b, .int .i64 c, .int .i64 x, .int .i64 y, .int .i64 dep, .int .i64 many] := by
  obtain ⟨cs, rfl, hsz⟩ := okWide_struct Tryz.underlying32 hv
  obtain ⟨l⟩ := cs
  match l, hsz.trans (show Tryz.prog.cellsOf 32 = 7 by kernel_rfl) with
  | [c0, c1, c2, c3, c4, c5, c6], _ =>
    obtain ⟨fuel, hf⟩ := h
    obtain ⟨xs, n, _, hx, _, hlen, hg⟩ := DataW.trod_struct Tryz.underlying32 hf
    match xs, hlen with
    | [y0, y1, y2], _ =>
      have c30 : Tryz.prog.cellsOf 30 = 5 := by kernel_rfl
      have c3' : Tryz.prog.cellsOf 3 = 1 := by kernel_rfl
      have hs1 := hg 0 _ rfl
      simp [Value.cells, c30] at hs1
      obtain ⟨q, hq, _⟩ := five_open hs1 rfl
      obtain ⟨m, rfl, _⟩ := int_one (by simpa [Value.cells, c3'] using hg 1 _ rfl)
      obtain ⟨k, rfl, _⟩ := int_one (by simpa [Value.cells, c3'] using hg 2 _ rfl)
      simp only [P5.cells, List.cons.injEq, and_true] at hq
      obtain ⟨rfl, rfl, rfl, rfl, rfl⟩ := hq
      exact ⟨q.a, q.b, q.c, q.d, q.e, m, k, rfl⟩
end Go.Proofs.YtjmfefaoenmppaaGreatDoor
