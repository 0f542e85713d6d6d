/-
  The specification's copy of a store.
-/
import Derived.Test.YtmnamclndpfjnaaCln
import Derived.Test.YtmnamclndpfjnaaStT
import Derived.Test.YtmnamclndpfjnaaCp
namespace Go.Proofs.Ytmnamclndpfjnaa
open Go.RowKit

set_option maxRecDepth 100000 in
set_option maxHeartbeats 8000000 in
theorem spec_l7copy (x : SA) (s : St) (w : World) (hs : SBulk s) (h1 : s.sp.refs.length = 64) (h2 : s.sp.last.length = 64) (hA : StAt w x s) :
    Calls Try.prog 61 #[(.agg #[.slice x.A s.rows.length x.a, .slice x.R s.sp.refs.length x.r, .slice x.L s.sp.last.length x.l, .int .i64 s.txg, .slice x.G s.gone.length x.g, .int .i64 s.keep, .slice x.D s.dead.length x.d, .bool s.same])] w (TPost s w) := by
  obtain ⟨i9, hi9, hz90, hz91, hz92⟩ := info_parts Sx.Try.info9
  obtain ⟨i45, hi45, hz450, hz451, hz452⟩ := info_parts Try.info45
  have a := (B8.new w 28 (.slice x.A s.rows.length x.a) (.slice x.R s.sp.refs.length x.r) (.slice x.L s.sp.last.length x.l) (.int .i64 s.txg) (.slice x.G s.gone.length x.g) (.int .i64 s.keep) (.slice x.D s.dead.length x.d) (.bool s.same)).alloc (.cells #[.slice none 0 0, .slice none 0 0, .slice none 0 0, .int .i64 0, .slice none 0 0, .int .i64 0, .slice none 0 0, .bool false] 28)
  have c := B8.new (w.alloc (.cells #[.slice x.A s.rows.length x.a, .slice x.R s.sp.refs.length x.r, .slice x.L s.sp.last.length x.l, .int .i64 s.txg, .slice x.G s.gone.length x.g, .int .i64 s.keep, .slice x.D s.dead.length x.d, .bool s.same] 28)) 28 (.slice none 0 0) (.slice none 0 0) (.slice none 0 0) (.int .i64 0) (.slice none 0 0) (.int .i64 0) (.slice none 0 0) (.bool false)
  have BB := bel_new (bel_new (Below.refl w.heap.size w) (.cells #[.slice x.A s.rows.length x.a, .slice x.R s.sp.refs.length x.r, .slice x.L s.sp.last.length x.l, .int .i64 s.txg, .slice x.G s.gone.length x.g, .int .i64 s.keep, .slice x.D s.dead.length x.d, .bool s.same] 28)) (.cells #[.slice none 0 0, .slice none 0 0, .slice none 0 0, .int .i64 0, .slice none 0 0, .int .i64 0, .slice none 0 0, .bool false] 28)
  have sz : ((w.alloc (.cells #[.slice x.A s.rows.length x.a, .slice x.R s.sp.refs.length x.r, .slice x.L s.sp.last.length x.l, .int .i64 s.txg, .slice x.G s.gone.length x.g, .int .i64 s.keep, .slice x.D s.dead.length x.d, .bool s.same] 28)).alloc (.cells #[.slice none 0 0, .slice none 0 0, .slice none 0 0, .int .i64 0, .slice none 0 0, .int .i64 0, .slice none 0 0, .bool false] 28)).heap.size = w.heap.size + 1 + 1 := by rw [World.size_alloc, World.size_alloc]
  rw [World.size_alloc] at c
  have hR := fun W (hW : Below w.heap.size w W) => hA.rows.below hW
  have hSp := fun W (hW : Below w.heap.size w W) => spec_copy x.R x.L x.r x.l s.sp W h1 h2 (hA.sp.below hW)
  have hG := fun W (hW : Below w.heap.size w W) => parg_lies (hA.gone.below hW)
  have hD := fun W (hW : Below w.heap.size w W) => parg_lies (hA.dead.below hW)
  have n1 := hs.rows
  have n2 := hs.gone
  have n3 := hs.dead
  clear hs hA h1 h2
  go_enter Try.func61, Try.ntmps61
  go_upto_region 1 with fail
  obtain ⟨W0, hW0⟩ : ∃ W, W = (w.alloc (.cells #[.slice x.A s.rows.length x.a, .slice x.R s.sp.refs.length x.r, .slice x.L s.sp.last.length x.l, .int .i64 s.txg, .slice x.G s.gone.length x.g, .int .i64 s.keep, .slice x.D s.dead.length x.d, .bool s.same] 28)).alloc (.cells #[.slice none 0 0, .slice none 0 0, .slice none 0 0, .int .i64 0, .slice none 0 0, .int .i64 0, .slice none 0 0, .bool false] 28) := ⟨_, rfl⟩
  rw [← hW0] at a c BB sz ⊢
  clear hW0
  replace sz := Nat.le_of_eq sz.symm
  have hH0 : w.heap.size < W0.heap.size := by omega
  have hH1 : w.heap.size + 1 < W0.heap.size := by omega
  obtain ⟨x0, x1, x2, x3, x4, x5, x6, x7⟩ := a.cells
  obtain ⟨f0, f1, f2, f3, f4, f5, f6, f7⟩ := a.fro
  have hL := Lib.hid (Lies.alloc (hR W0 BB) (.cells #[] 9))
  have om : (W0.alloc (.cells #[] 9)).ownsRow W0.heap.size 9 1 (.slice (some ⟨W0.heap.size, 0, none⟩) 0 0) 0 [] := World.ownsRow_made W0 #[] 0 (Nat.le_refl _) (Nat.zero_le _) rfl
  have oz := Nat.le_of_eq (rfl : W0.heap.size = W0.heap.size)
  go_wp2_with (at_builtin; go_loud (refine wpList_append_lies2 _ rfl _ _ 22 rfl _ 9 i9 (.string ⟨#[]⟩) 1 16 Try.underlying22 hi9 hz90 hz91 hz92 rfl (by decide) _ _ _ rfl om x.A s.rows.length x.a (strCells s.rows) rfl (by rw [strCells_len, Nat.mul_one]) hL.out (strCells_one s.rows) (by unfold maxLen; omega) (by omega) (by rw [World.size_alloc]; omega) ?_))
  intro v1 w1 o1 g1
  try simp only [Nat.zero_add, List.nil_append] at o1
  obtain ⟨A1, k1, rfl, _⟩ := own_lies o1
  have hb1 : Below W0.heap.size W0 w1 := ((Below.refl _ W0).alloc (Nat.le_refl _) _).grown g1 (by simp) (by intro k hk; simp [Value.ownBlock] at hk; omega)
  clear hL om g1 x0 x1 x2 x3 x4 x5 x6 x7 f0 f1 f2 f3 f4 f5 f6 f7
  obtain ⟨x0, x1, x2, x3, x4, x5, x6, x7⟩ := (a.below hb1).cells
  obtain ⟨f0, f1, f2, f3, f4, f5, f6, f7⟩ := (a.below hb1).fro
  have a := ((a.below hb1).put0 (.slice A1 s.rows.length k1))
  have c := ((c.below hb1).set (p := ⟨w.heap.size, 0, none⟩) (by show w.heap.size + 1 ≠ w.heap.size; omega) (.slice A1 s.rows.length k1))
  have BB := ((bel_then BB hb1).setCell (p := ⟨w.heap.size, 0, none⟩) (Nat.le_refl _) (.slice A1 s.rows.length k1))
  have P1 := ((Own.one o1).set (p := ⟨w.heap.size, 0, none⟩) (by show w.heap.size < _; omega) (.slice A1 s.rows.length k1))
  have s1 := hb1.size
  have z1 : (w1.setCell ⟨w.heap.size, 0, none⟩ (.slice A1 s.rows.length k1)).heap.size = w1.heap.size := by simp only [size_set]
  have hH2 : w.heap.size < w1.heap.size := by omega
  have hHH2 : w.heap.size + 1 < w1.heap.size := by omega
  clear hb1
  have L := hSp _ BB
  go_wp2_with (go_at_call 96; refine L.mono ?_; rintro r w2 ⟨R2, r2, L2, l2, rfl, ho, hb2⟩; refine Hid.out ?_)
  refine Lib.hid ?_
  clear hSp L x0 x1 x2 x3 x4 x5 x6 x7 f0 f1 f2 f3 f4 f5 f6 f7
  obtain ⟨x0, x1, x2, x3, x4, x5, x6, x7⟩ := (a.below hb2).cells
  obtain ⟨f0, f1, f2, f3, f4, f5, f6, f7⟩ := (a.below hb2).fro
  have a := (((a.below hb2).put1 (.slice R2 s.sp.refs.length r2)).put2 (.slice L2 s.sp.last.length l2))
  have c := (((c.below hb2).set (p := ⟨w.heap.size, 1, none⟩) (by show w.heap.size + 1 ≠ w.heap.size; omega) (.slice R2 s.sp.refs.length r2)).set (p := ⟨w.heap.size, 2, none⟩) (by show w.heap.size + 1 ≠ w.heap.size; omega) (.slice L2 s.sp.last.length l2))
  have BB := (((bel_then BB hb2).setCell (p := ⟨w.heap.size, 1, none⟩) (Nat.le_refl _) (.slice R2 s.sp.refs.length r2)).setCell (p := ⟨w.heap.size, 2, none⟩) (Nat.le_refl _) (.slice L2 s.sp.last.length l2))
  have P1 := (((P1.below hb2).set (p := ⟨w.heap.size, 1, none⟩) (by show w.heap.size < _; omega) (.slice R2 s.sp.refs.length r2)).set (p := ⟨w.heap.size, 2, none⟩) (by show w.heap.size < _; omega) (.slice L2 s.sp.last.length l2))
  have P2 := ((ho.two.set (p := ⟨w.heap.size, 1, none⟩) (by show w.heap.size < _; omega) (.slice R2 s.sp.refs.length r2)).set (p := ⟨w.heap.size, 2, none⟩) (by show w.heap.size < _; omega) (.slice L2 s.sp.last.length l2))
  have s2 := hb2.size
  rw [z1] at s2
  have z2 : ((w2.setCell ⟨w.heap.size, 1, none⟩ (.slice R2 s.sp.refs.length r2)).setCell ⟨w.heap.size, 2, none⟩ (.slice L2 s.sp.last.length l2)).heap.size = w2.heap.size := by simp only [size_set]
  have hH3 : w.heap.size < w2.heap.size := by omega
  have hHH3 : w.heap.size + 1 < w2.heap.size := by omega
  clear hb2
  have hL := Lib.hid (Lies.alloc (hG ((w2.setCell ⟨w.heap.size, 1, none⟩ (.slice R2 s.sp.refs.length r2)).setCell ⟨w.heap.size, 2, none⟩ (.slice L2 s.sp.last.length l2)) BB) (.cells #[] 45))
  have om : (((w2.setCell ⟨w.heap.size, 1, none⟩ (.slice R2 s.sp.refs.length r2)).setCell ⟨w.heap.size, 2, none⟩ (.slice L2 s.sp.last.length l2)).alloc (.cells #[] 45)).ownsRow ((w2.setCell ⟨w.heap.size, 1, none⟩ (.slice R2 s.sp.refs.length r2)).setCell ⟨w.heap.size, 2, none⟩ (.slice L2 s.sp.last.length l2)).heap.size 45 5 (.slice (some ⟨((w2.setCell ⟨w.heap.size, 1, none⟩ (.slice R2 s.sp.refs.length r2)).setCell ⟨w.heap.size, 2, none⟩ (.slice L2 s.sp.last.length l2)).heap.size, 0, none⟩) 0 0) 0 [] := World.ownsRow_made ((w2.setCell ⟨w.heap.size, 1, none⟩ (.slice R2 s.sp.refs.length r2)).setCell ⟨w.heap.size, 2, none⟩ (.slice L2 s.sp.last.length l2)) #[] 0 (Nat.le_refl _) (Nat.zero_le _) rfl
  rw [z2] at om
  have oz := Nat.le_of_eq (z2.symm)
  go_wp2_with (at_builtin; go_loud (refine wpList_append_lies2 _ rfl _ _ 26 rfl _ 45 i45 (.agg #[.int .i64 0, .int .i64 0, .int .i64 0, .int .i64 0, .int .i64 0]) 5 40 Try.underlying26 hi45 hz450 hz451 hz452 rfl (by decide) _ _ _ rfl om x.G s.gone.length x.g (flat s.gone) rfl (by rw [flat_len]; omega) hL.out (flat_one s.gone) (by unfold maxLen; omega) (by omega) (by rw [World.size_alloc]; omega) ?_))
  intro v3 w3 o3 g3
  try simp only [Nat.zero_add, List.nil_append] at o3
  obtain ⟨A3, k3, rfl, _⟩ := own_lies o3
  have hb3 : Below ((w2.setCell ⟨w.heap.size, 1, none⟩ (.slice R2 s.sp.refs.length r2)).setCell ⟨w.heap.size, 2, none⟩ (.slice L2 s.sp.last.length l2)).heap.size ((w2.setCell ⟨w.heap.size, 1, none⟩ (.slice R2 s.sp.refs.length r2)).setCell ⟨w.heap.size, 2, none⟩ (.slice L2 s.sp.last.length l2)) w3 := ((Below.refl _ ((w2.setCell ⟨w.heap.size, 1, none⟩ (.slice R2 s.sp.refs.length r2)).setCell ⟨w.heap.size, 2, none⟩ (.slice L2 s.sp.last.length l2))).alloc (Nat.le_refl _) _).grown g3 (by simp) (by intro k hk; simp [Value.ownBlock] at hk; omega)
  clear hL om g3 x0 x1 x2 x3 x4 x5 x6 x7 f0 f1 f2 f3 f4 f5 f6 f7
  obtain ⟨x0, x1, x2, x3, x4, x5, x6, x7⟩ := (a.below hb3).cells
  obtain ⟨f0, f1, f2, f3, f4, f5, f6, f7⟩ := (a.below hb3).fro
  have a := ((a.below hb3).put4 (.slice A3 s.gone.length k3))
  have c := ((c.below hb3).set (p := ⟨w.heap.size, 4, none⟩) (by show w.heap.size + 1 ≠ w.heap.size; omega) (.slice A3 s.gone.length k3))
  have BB := ((bel_then BB hb3).setCell (p := ⟨w.heap.size, 4, none⟩) (Nat.le_refl _) (.slice A3 s.gone.length k3))
  have P1 := ((P1.below hb3).set (p := ⟨w.heap.size, 4, none⟩) (by show w.heap.size < _; omega) (.slice A3 s.gone.length k3))
  have P2 := ((P2.below hb3).set (p := ⟨w.heap.size, 4, none⟩) (by show w.heap.size < _; omega) (.slice A3 s.gone.length k3))
  have P3 := ((Own.one o3).set (p := ⟨w.heap.size, 4, none⟩) (by show w.heap.size < _; omega) (.slice A3 s.gone.length k3))
  have s3 := hb3.size
  rw [z2] at s3
  have z3 : (w3.setCell ⟨w.heap.size, 4, none⟩ (.slice A3 s.gone.length k3)).heap.size = w3.heap.size := by simp only [size_set]
  have hH4 : w.heap.size < w3.heap.size := by omega
  have hHH4 : w.heap.size + 1 < w3.heap.size := by omega
  clear hb3
  have hL := Lib.hid (Lies.alloc (hD (w3.setCell ⟨w.heap.size, 4, none⟩ (.slice A3 s.gone.length k3)) BB) (.cells #[] 45))
  have om : ((w3.setCell ⟨w.heap.size, 4, none⟩ (.slice A3 s.gone.length k3)).alloc (.cells #[] 45)).ownsRow (w3.setCell ⟨w.heap.size, 4, none⟩ (.slice A3 s.gone.length k3)).heap.size 45 5 (.slice (some ⟨(w3.setCell ⟨w.heap.size, 4, none⟩ (.slice A3 s.gone.length k3)).heap.size, 0, none⟩) 0 0) 0 [] := World.ownsRow_made (w3.setCell ⟨w.heap.size, 4, none⟩ (.slice A3 s.gone.length k3)) #[] 0 (Nat.le_refl _) (Nat.zero_le _) rfl
  rw [z3] at om
  have oz := Nat.le_of_eq (z3.symm)
  go_wp2_with (at_builtin; go_loud (refine wpList_append_lies2 _ rfl _ _ 26 rfl _ 45 i45 (.agg #[.int .i64 0, .int .i64 0, .int .i64 0, .int .i64 0, .int .i64 0]) 5 40 Try.underlying26 hi45 hz450 hz451 hz452 rfl (by decide) _ _ _ rfl om x.D s.dead.length x.d (flat s.dead) rfl (by rw [flat_len]; omega) hL.out (flat_one s.dead) (by unfold maxLen; omega) (by omega) (by rw [World.size_alloc]; omega) ?_))
  intro v4 w4 o4 g4
  try simp only [Nat.zero_add, List.nil_append] at o4
  obtain ⟨A4, k4, rfl, _⟩ := own_lies o4
  have hb4 : Below (w3.setCell ⟨w.heap.size, 4, none⟩ (.slice A3 s.gone.length k3)).heap.size (w3.setCell ⟨w.heap.size, 4, none⟩ (.slice A3 s.gone.length k3)) w4 := ((Below.refl _ (w3.setCell ⟨w.heap.size, 4, none⟩ (.slice A3 s.gone.length k3))).alloc (Nat.le_refl _) _).grown g4 (by simp) (by intro k hk; simp [Value.ownBlock] at hk; omega)
  clear hL om g4 x0 x1 x2 x3 x4 x5 x6 x7 f0 f1 f2 f3 f4 f5 f6 f7
  obtain ⟨x0, x1, x2, x3, x4, x5, x6, x7⟩ := (a.below hb4).cells
  obtain ⟨f0, f1, f2, f3, f4, f5, f6, f7⟩ := (a.below hb4).fro
  have a := ((a.below hb4).put6 (.slice A4 s.dead.length k4))
  have c := ((c.below hb4).set (p := ⟨w.heap.size, 6, none⟩) (by show w.heap.size + 1 ≠ w.heap.size; omega) (.slice A4 s.dead.length k4))
  have BB := ((bel_then BB hb4).setCell (p := ⟨w.heap.size, 6, none⟩) (Nat.le_refl _) (.slice A4 s.dead.length k4))
  have P1 := ((P1.below hb4).set (p := ⟨w.heap.size, 6, none⟩) (by show w.heap.size < _; omega) (.slice A4 s.dead.length k4))
  have P2 := ((P2.below hb4).set (p := ⟨w.heap.size, 6, none⟩) (by show w.heap.size < _; omega) (.slice A4 s.dead.length k4))
  have P3 := ((P3.below hb4).set (p := ⟨w.heap.size, 6, none⟩) (by show w.heap.size < _; omega) (.slice A4 s.dead.length k4))
  have P4 := ((Own.one o4).set (p := ⟨w.heap.size, 6, none⟩) (by show w.heap.size < _; omega) (.slice A4 s.dead.length k4))
  have s4 := hb4.size
  rw [z3] at s4
  have z4 : (w4.setCell ⟨w.heap.size, 6, none⟩ (.slice A4 s.dead.length k4)).heap.size = w4.heap.size := by simp only [size_set]
  have hH5 : w.heap.size < w4.heap.size := by omega
  have hHH5 : w.heap.size + 1 < w4.heap.size := by omega
  clear hb4
  have OW := own_five (x := (⟨A1, k1, R2, r2, L2, l2, A3, k3, A4, k4⟩ : SA)) (s := s) (P1.base (base' := w.heap.size + 1 + 1) (by omega)) (P2.base (Nat.le_of_eq z1.symm)) P3 P4 (by omega) (by omega) (by omega) (by omega)
  have FN := Fin8.mk2 (x := (⟨A1, k1, R2, r2, L2, l2, A3, k3, A4, k4⟩ : SA)) (s := s) (H := w.heap.size + 1) c (Nat.lt_succ_self _) (Nat.le_succ _) OW BB
  have HF := Lib.hid FN
  obtain ⟨x0, x1, x2, x3, x4, x5, x6, x7⟩ := a.cells
  obtain ⟨f0, f1, f2, f3, f4, f5, f6, f7⟩ := a.fro
  obtain ⟨y0, y1, y2, y3, y4, y5, y6, y7⟩ := c.cells
  obtain ⟨g0, g1, g2, g3, g4, g5, g6, g7⟩ := c.fro
  clear P1 P2 P3 P4 OW BB a c FN
  go_wp2_with fail
  change bodyPost Try.prog Try.f61 (TPost s w) Exit.ret _ (putS (w4.setCell ⟨w.heap.size, 6, none⟩ (.slice A4 s.dead.length k4)) (w.heap.size + 1) (⟨A1, k1, R2, r2, L2, l2, A3, k3, A4, k4⟩ : SA) s)
  have HF := HF.out
  generalize putS _ _ _ _ = WF at HF ⊢
  clear x0 x1 x2 x3 x4 x5 x6 x7 f0 f1 f2 f3 f4 f5 f6 f7 y0 y1 y2 y3 y4 y5 y6 y7 g0 g1 g2 g3 g4 g5 g6 g7
  obtain ⟨⟨q0, q1, q2, q3, q4, q5, q6, q7⟩, ho, hb⟩ := (⟨HF.box.cells, HF.own, HF.bel⟩ : _ ∧ _ ∧ _)
  exact bodyPost_ret (v := .agg #[.slice A1 s.rows.length k1, .slice R2 s.sp.refs.length r2, .slice L2 s.sp.last.length l2, .int .i64 s.txg, .slice A3 s.gone.length k3, .int .i64 s.keep, .slice A4 s.dead.length k4, .bool s.same]) (by simp [results, Try.f61, go_sem, q0, q1, q2, q3, q4, q5, q6, q7]) rfl ⟨_, rfl, ho, hb⟩
end Go.Proofs.Ytmnamclndpfjnaa
