/-
  The program's copy of a store.
-/
import Derived.Test.YtmnamclndpfjnaaCln
import Derived.Test.YtmnamclndpfjnaaStNa
namespace Go.Proofs.Ytmnamclndpfjnaa
open Go.RowKit

section
variable {W w : World} {H g : Nat} {t : TypeId} {v0 v1 v2 v3 v4 v5 v6 v7 u0 u1 u2 u3 u4 u5 u6 u7 : Value}
theorem set8_far (h : B8 W g t v0 v1 v2 v3 v4 v5 v6 v7) (hg : g ≠ H) : B8 ((((((((W.setCell ⟨H, 0, none⟩ u0).setCell ⟨H, 1, none⟩ u1).setCell ⟨H, 2, none⟩ u2).setCell ⟨H, 3, none⟩ u3).setCell ⟨H, 4, none⟩ u4).setCell ⟨H, 5, none⟩ u5).setCell ⟨H, 6, none⟩ u6).setCell ⟨H, 7, none⟩ u7) g t v0 v1 v2 v3 v4 v5 v6 v7 := set8_heap hg h
theorem set8_size (W : World) : ((((((((W.setCell ⟨H, 0, none⟩ u0).setCell ⟨H, 1, none⟩ u1).setCell ⟨H, 2, none⟩ u2).setCell ⟨H, 3, none⟩ u3).setCell ⟨H, 4, none⟩ u4).setCell ⟨H, 5, none⟩ u5).setCell ⟨H, 6, none⟩ u6).setCell ⟨H, 7, none⟩ u7).heap.size = W.heap.size := by simp only [size_set]
end
theorem Own.put8 {w : World} {base top : Nat} {L : List Rw} (h : Own w base top L) {p : Addr} (hp : p.block < base) (u : Value) : Own (w.setCell p u) base (w.setCell p u).heap.size L := (h.set hp u).at_top
set_option maxRecDepth 100000 in
set_option maxHeartbeats 8000000 in
theorem impl_copied (x : SA) (s : St) (w : World) (n1 : s.rows.length ≤ 1048576) (n4 : s.sp.refs.length ≤ 1048576) (n5 : s.sp.last.length ≤ 1048576) (n2 : s.gone.length ≤ 1048576) (n3 : s.dead.length ≤ 1048576) (hA : StAt w x s) :
    Calls Try.prog 98 #[(.agg #[.slice x.A s.rows.length x.a, .slice x.R s.sp.refs.length x.r, .slice x.L s.sp.last.length x.l, .int .i64 s.txg, .slice x.G s.gone.length x.g, .int .i64 s.keep, .slice x.D s.dead.length x.d, .bool s.same])] w (TPost s w) := by
  have a := ((B8.new w 28 (.slice x.A s.rows.length x.a) (.slice x.R s.sp.refs.length x.r) (.slice x.L s.sp.last.length x.l) (.int .i64 s.txg) (.slice x.G s.gone.length x.g) (.int .i64 s.keep) (.slice x.D s.dead.length x.d) (.bool s.same)).alloc (.cells #[.slice none 0 0, .slice none 0 0, .slice none 0 0, .int .i64 0, .slice none 0 0, .int .i64 0, .slice none 0 0, .bool false] 28)).alloc (.cells #[.slice x.A s.rows.length x.a, .slice x.R s.sp.refs.length x.r, .slice x.L s.sp.last.length x.l, .int .i64 s.txg, .slice x.G s.gone.length x.g, .int .i64 s.keep, .slice x.D s.dead.length x.d, .bool s.same] 28)
  have c := (B8.new (w.alloc (.cells #[.slice x.A s.rows.length x.a, .slice x.R s.sp.refs.length x.r, .slice x.L s.sp.last.length x.l, .int .i64 s.txg, .slice x.G s.gone.length x.g, .int .i64 s.keep, .slice x.D s.dead.length x.d, .bool s.same] 28)) 28 (.slice none 0 0) (.slice none 0 0) (.slice none 0 0) (.int .i64 0) (.slice none 0 0) (.int .i64 0) (.slice none 0 0) (.bool false)).alloc (.cells #[.slice x.A s.rows.length x.a, .slice x.R s.sp.refs.length x.r, .slice x.L s.sp.last.length x.l, .int .i64 s.txg, .slice x.G s.gone.length x.g, .int .i64 s.keep, .slice x.D s.dead.length x.d, .bool s.same] 28)
  have d2 := B8.new ((w.alloc (.cells #[.slice x.A s.rows.length x.a, .slice x.R s.sp.refs.length x.r, .slice x.L s.sp.last.length x.l, .int .i64 s.txg, .slice x.G s.gone.length x.g, .int .i64 s.keep, .slice x.D s.dead.length x.d, .bool s.same] 28)).alloc (.cells #[.slice none 0 0, .slice none 0 0, .slice none 0 0, .int .i64 0, .slice none 0 0, .int .i64 0, .slice none 0 0, .bool false] 28)) 28 (.slice x.A s.rows.length x.a) (.slice x.R s.sp.refs.length x.r) (.slice x.L s.sp.last.length x.l) (.int .i64 s.txg) (.slice x.G s.gone.length x.g) (.int .i64 s.keep) (.slice x.D s.dead.length x.d) (.bool s.same)
  have BB := bel_new (bel_new (bel_new (Below.refl w.heap.size w) (.cells #[.slice x.A s.rows.length x.a, .slice x.R s.sp.refs.length x.r, .slice x.L s.sp.last.length x.l, .int .i64 s.txg, .slice x.G s.gone.length x.g, .int .i64 s.keep, .slice x.D s.dead.length x.d, .bool s.same] 28)) (.cells #[.slice none 0 0, .slice none 0 0, .slice none 0 0, .int .i64 0, .slice none 0 0, .int .i64 0, .slice none 0 0, .bool false] 28)) (.cells #[.slice x.A s.rows.length x.a, .slice x.R s.sp.refs.length x.r, .slice x.L s.sp.last.length x.l, .int .i64 s.txg, .slice x.G s.gone.length x.g, .int .i64 s.keep, .slice x.D s.dead.length x.d, .bool s.same] 28)
  have sz : (((w.alloc (.cells #[.slice x.A s.rows.length x.a, .slice x.R s.sp.refs.length x.r, .slice x.L s.sp.last.length x.l, .int .i64 s.txg, .slice x.G s.gone.length x.g, .int .i64 s.keep, .slice x.D s.dead.length x.d, .bool s.same] 28)).alloc (.cells #[.slice none 0 0, .slice none 0 0, .slice none 0 0, .int .i64 0, .slice none 0 0, .int .i64 0, .slice none 0 0, .bool false] 28)).alloc (.cells #[.slice x.A s.rows.length x.a, .slice x.R s.sp.refs.length x.r, .slice x.L s.sp.last.length x.l, .int .i64 s.txg, .slice x.G s.gone.length x.g, .int .i64 s.keep, .slice x.D s.dead.length x.d, .bool s.same] 28)).heap.size = w.heap.size + 1 + 1 + 1 := by rw [World.size_alloc, World.size_alloc, World.size_alloc]
  rw [World.size_alloc] at c
  rw [World.size_alloc, World.size_alloc] at d2
  have hR := fun W (hW : Below w.heap.size w W) => clone_strs x.A x.a s.rows W n1 (hA.rows.below hW)
  have hI := fun W (hW : Below w.heap.size w W) => clone_ints x.R x.r s.sp.refs W n4 (hA.sp.1.below hW)
  have hJ := fun W (hW : Below w.heap.size w W) => clone_ints x.L x.l s.sp.last W n5 (hA.sp.2.below hW)
  have hG := fun W (hW : Below w.heap.size w W) => clone_ptrs x.G x.g s.gone W n2 (parg_lies (hA.gone.below hW))
  have hD := fun W (hW : Below w.heap.size w W) => clone_ptrs x.D x.d s.dead W n3 (parg_lies (hA.dead.below hW))
  clear hA n1 n2 n3 n4 n5
  go_enter Try.func98, Try.ntmps98
  go_upto_region 2 with fail
  obtain ⟨W1, hW1⟩ : ∃ W, W = (((w.alloc (.cells #[.slice x.A s.rows.length x.a, .slice x.R s.sp.refs.length x.r, .slice x.L s.sp.last.length x.l, .int .i64 s.txg, .slice x.G s.gone.length x.g, .int .i64 s.keep, .slice x.D s.dead.length x.d, .bool s.same] 28)).alloc (.cells #[.slice none 0 0, .slice none 0 0, .slice none 0 0, .int .i64 0, .slice none 0 0, .int .i64 0, .slice none 0 0, .bool false] 28)).alloc (.cells #[.slice x.A s.rows.length x.a, .slice x.R s.sp.refs.length x.r, .slice x.L s.sp.last.length x.l, .int .i64 s.txg, .slice x.G s.gone.length x.g, .int .i64 s.keep, .slice x.D s.dead.length x.d, .bool s.same] 28)) := ⟨_, rfl⟩
  rw [← hW1] at a c d2 BB sz ⊢
  clear hW1
  obtain ⟨x0, x1, x2, x3, x4, x5, x6, x7⟩ := a.cells
  obtain ⟨y0, y1, y2, y3, y4, y5, y6, y7⟩ := d2.cells
  obtain ⟨f0, f1, f2, f3, f4, f5, f6, f7⟩ := d2.fro
  have L := hR W1 BB
  go_wp2_with (go_at_call 114; refine L.mono ?_; rintro r w1 ⟨A1, k1, rfl, o1, hb1⟩; refine Hid.out ?_)
  refine Lib.hid ?_
  clear x0 x1 x2 x3 x4 x5 x6 x7 y0 y1 y2 y3 y4 y5 y6 y7 f0 f1 f2 f3 f4 f5 f6 f7 hR L
  have a := a.below hb1
  have c := c.below hb1
  have d := d2.below hb1
  clear d2
  have BB := bel_then BB hb1
  have s1 := hb1.size
  have P := (Own.one o1).base (base' := w.heap.size + 1 + 1 + 1) (by omega)
  obtain ⟨y0, y1, y2, y3, y4, y5, y6, y7⟩ := d.cells
  obtain ⟨f0, f1, f2, f3, f4, f5, f6, f7⟩ := d.fro
  go_upto_region 3 with fail
  have a := a.set (p := ⟨w.heap.size + 1 + 1, 0, none⟩) (by show w.heap.size ≠ w.heap.size + 1 + 1; omega) (.slice A1 s.rows.length k1)
  have c := c.set (p := ⟨w.heap.size + 1 + 1, 0, none⟩) (by show w.heap.size + 1 ≠ w.heap.size + 1 + 1; omega) (.slice A1 s.rows.length k1)
  have d := d.put0 (.slice A1 s.rows.length k1)
  have BB := BB.setCell (p := ⟨w.heap.size + 1 + 1, 0, none⟩) (by show w.heap.size ≤ w.heap.size + 1 + 1; omega) (.slice A1 s.rows.length k1)
  have P := P.put8 (p := ⟨w.heap.size + 1 + 1, 0, none⟩) (by show w.heap.size + 1 + 1 < _; omega) (.slice A1 s.rows.length k1)
  have z1 : (w1.setCell ⟨w.heap.size + 1 + 1, 0, none⟩ (.slice A1 s.rows.length k1)).heap.size = w1.heap.size := size_set _ _ _
  rw [sz] at s1
  rw [← z1] at s1
  clear sz hb1 o1 y0 y1 y2 y3 y4 y5 y6 y7 f0 f1 f2 f3 f4 f5 f6 f7 z1
  generalize w1.setCell ⟨w.heap.size + 1 + 1, 0, none⟩ (.slice A1 s.rows.length k1) = W2 at *
  obtain ⟨x0, x1, x2, x3, x4, x5, x6, x7⟩ := a.cells
  obtain ⟨y0, y1, y2, y3, y4, y5, y6, y7⟩ := d.cells
  obtain ⟨f0, f1, f2, f3, f4, f5, f6, f7⟩ := d.fro
  go_upto_region 3 with fail
  have L1 := hI _ BB.drew
  have sdd := Nat.le_trans s1 (Nat.le_of_eq (World.size_drew _).symm)
  go_cut [] (fun wx => ∃ R2 r2 L2 l2, B8 wx w.heap.size 28 (.slice x.A s.rows.length x.a) (.slice x.R s.sp.refs.length x.r) (.slice x.L s.sp.last.length x.l) (.int .i64 s.txg) (.slice x.G s.gone.length x.g) (.int .i64 s.keep) (.slice x.D s.dead.length x.d) (.bool s.same) ∧ B8 wx (w.heap.size + 1) 28 (.slice none 0 0) (.slice none 0 0) (.slice none 0 0) (.int .i64 0) (.slice none 0 0) (.int .i64 0) (.slice none 0 0) (.bool false) ∧ B8 wx (w.heap.size + 1 + 1) 28 (.slice A1 s.rows.length k1) (.slice R2 s.sp.refs.length r2) (.slice L2 s.sp.last.length l2) (.int .i64 s.txg) (.slice x.G s.gone.length x.g) (.int .i64 s.keep) (.slice x.D s.dead.length x.d) (.bool s.same) ∧ Own wx (w.heap.size + 1 + 1 + 1) wx.heap.size [⟨9, 1, s.rows.length, .slice A1 s.rows.length k1, strCells s.rows⟩, ⟨3, 1, s.sp.refs.length, .slice R2 s.sp.refs.length r2, intCells s.sp.refs⟩, ⟨3, 1, s.sp.last.length, .slice L2 s.sp.last.length l2, intCells s.sp.last⟩] ∧ Below w.heap.size w wx ∧ w.heap.size + 1 + 1 + 1 ≤ wx.heap.size)
  case first =>
    first
      | go_region_with (first
        | (go_at_call 107; refine L2.mono ?_; rintro r wb ⟨L2, l2, rfl, ob, hbb⟩; obtain ⟨x0, x1, x2, x3, x4, x5, x6, x7⟩ := ((a.drew.below hba).below hbb).cells; obtain ⟨y0, y1, y2, y3, y4, y5, y6, y7⟩ := ((d.drew.below hba).below hbb).cells; obtain ⟨f0, f1, f2, f3, f4, f5, f6, f7⟩ := ((d.drew.below hba).below hbb).fro)
        | (go_at_call 107; refine L1.mono ?_; rintro r wa ⟨R2, r2, rfl, oa, hba⟩; obtain ⟨x0, x1, x2, x3, x4, x5, x6, x7⟩ := (a.drew.below hba).cells; have L2 := hJ wa (bel_then BB.drew hba)))
      | fail "region 3"
    all_goals have sa := hba.size
    all_goals have sb := hbb.size
    all_goals go_wp2_with fail
    all_goals (try go_simp)
    all_goals go_meet
    all_goals exact ⟨R2, r2, L2, l2, ((((a.drew.below hba).below hbb).set (p := ⟨w.heap.size + 1 + 1, 1, none⟩) (by show w.heap.size ≠ w.heap.size + 1 + 1; omega) (.slice R2 s.sp.refs.length r2)).set (p := ⟨w.heap.size + 1 + 1, 2, none⟩) (by show w.heap.size ≠ w.heap.size + 1 + 1; omega) (.slice L2 s.sp.last.length l2)), ((((c.drew.below hba).below hbb).set (p := ⟨w.heap.size + 1 + 1, 1, none⟩) (by show w.heap.size + 1 ≠ w.heap.size + 1 + 1; omega) (.slice R2 s.sp.refs.length r2)).set (p := ⟨w.heap.size + 1 + 1, 2, none⟩) (by show w.heap.size + 1 ≠ w.heap.size + 1 + 1; omega) (.slice L2 s.sp.last.length l2)), ((((d.drew.below hba).below hbb).put1 (.slice R2 s.sp.refs.length r2)).put2 (.slice L2 s.sp.last.length l2)), ((((((P.drew.below hba).more (Own.one oa) (Nat.le_refl _) (by omega) sa).below hbb).more (Own.one ob) (Nat.le_refl _) (by omega) sb).put8 (p := ⟨w.heap.size + 1 + 1, 1, none⟩) (by show w.heap.size + 1 + 1 < _; omega) (.slice R2 s.sp.refs.length r2)).put8 (p := ⟨w.heap.size + 1 + 1, 2, none⟩) (by show w.heap.size + 1 + 1 < _; omega) (.slice L2 s.sp.last.length l2)), (((bel_then (bel_then BB.drew hba) hbb).setCell (p := ⟨w.heap.size + 1 + 1, 1, none⟩) (by show w.heap.size ≤ w.heap.size + 1 + 1; omega) (.slice R2 s.sp.refs.length r2)).setCell (p := ⟨w.heap.size + 1 + 1, 2, none⟩) (by show w.heap.size ≤ w.heap.size + 1 + 1; omega) (.slice L2 s.sp.last.length l2)), by simp only [size_set]; omega⟩
  case rest =>
    clear x0 x1 x2 x3 x4 x5 x6 x7 y0 y1 y2 y3 y4 y5 y6 y7 f0 f1 f2 f3 f4 f5 f6 f7 L1 hI hJ a c d P BB sdd s1
    obtain ⟨R2, r2, L2, l2, a, c, d, P, BB, s2⟩ := hcut
    obtain ⟨x0, x1, x2, x3, x4, x5, x6, x7⟩ := a.cells
    obtain ⟨y0, y1, y2, y3, y4, y5, y6, y7⟩ := d.cells
    obtain ⟨f0, f1, f2, f3, f4, f5, f6, f7⟩ := d.fro
    go_upto_region 4 with fail
    have L1 := hG _ BB.drew
    have sdd := Nat.le_trans s2 (Nat.le_of_eq (World.size_drew _).symm)
    go_cut [] (fun wx => ∃ A3 k3 A4 k4, B8 wx w.heap.size 28 (.slice x.A s.rows.length x.a) (.slice x.R s.sp.refs.length x.r) (.slice x.L s.sp.last.length x.l) (.int .i64 s.txg) (.slice x.G s.gone.length x.g) (.int .i64 s.keep) (.slice x.D s.dead.length x.d) (.bool s.same) ∧ B8 wx (w.heap.size + 1) 28 (.slice none 0 0) (.slice none 0 0) (.slice none 0 0) (.int .i64 0) (.slice none 0 0) (.int .i64 0) (.slice none 0 0) (.bool false) ∧ B8 wx (w.heap.size + 1 + 1) 28 (.slice A1 s.rows.length k1) (.slice R2 s.sp.refs.length r2) (.slice L2 s.sp.last.length l2) (.int .i64 s.txg) (.slice A3 s.gone.length k3) (.int .i64 s.keep) (.slice A4 s.dead.length k4) (.bool s.same) ∧ Own wx (w.heap.size + 1 + 1 + 1) wx.heap.size [⟨9, 1, s.rows.length, .slice A1 s.rows.length k1, strCells s.rows⟩, ⟨3, 1, s.sp.refs.length, .slice R2 s.sp.refs.length r2, intCells s.sp.refs⟩, ⟨3, 1, s.sp.last.length, .slice L2 s.sp.last.length l2, intCells s.sp.last⟩, ⟨45, 5, s.gone.length, .slice A3 s.gone.length k3, flat s.gone⟩, ⟨45, 5, s.dead.length, .slice A4 s.dead.length k4, flat s.dead⟩] ∧ Below w.heap.size w wx ∧ w.heap.size + 1 + 1 + 1 ≤ wx.heap.size)
    case first =>
      first
        | go_region_with (first
          | (go_at_call 115; refine L2.mono ?_; rintro r wb ⟨A4, k4, rfl, ob, hbb⟩; obtain ⟨x0, x1, x2, x3, x4, x5, x6, x7⟩ := ((a.drew.below hba).below hbb).cells; obtain ⟨y0, y1, y2, y3, y4, y5, y6, y7⟩ := ((d.drew.below hba).below hbb).cells; obtain ⟨f0, f1, f2, f3, f4, f5, f6, f7⟩ := ((d.drew.below hba).below hbb).fro)
          | (go_at_call 115; refine L1.mono ?_; rintro r wa ⟨A3, k3, rfl, oa, hba⟩; obtain ⟨x0, x1, x2, x3, x4, x5, x6, x7⟩ := (a.drew.below hba).cells; have L2 := hD wa (bel_then BB.drew hba)))
        | fail "region 4"
      all_goals have sa := hba.size
      all_goals have sb := hbb.size
      all_goals go_wp2_with fail
      all_goals (try go_simp)
      all_goals go_meet
      all_goals exact ⟨A3, k3, A4, k4, ((((a.drew.below hba).below hbb).set (p := ⟨w.heap.size + 1 + 1, 4, none⟩) (by show w.heap.size ≠ w.heap.size + 1 + 1; omega) (.slice A3 s.gone.length k3)).set (p := ⟨w.heap.size + 1 + 1, 6, none⟩) (by show w.heap.size ≠ w.heap.size + 1 + 1; omega) (.slice A4 s.dead.length k4)), ((((c.drew.below hba).below hbb).set (p := ⟨w.heap.size + 1 + 1, 4, none⟩) (by show w.heap.size + 1 ≠ w.heap.size + 1 + 1; omega) (.slice A3 s.gone.length k3)).set (p := ⟨w.heap.size + 1 + 1, 6, none⟩) (by show w.heap.size + 1 ≠ w.heap.size + 1 + 1; omega) (.slice A4 s.dead.length k4)), ((((d.drew.below hba).below hbb).put4 (.slice A3 s.gone.length k3)).put6 (.slice A4 s.dead.length k4)), ((((((P.drew.below hba).more (Own.one oa) (Nat.le_refl _) (by omega) sa).below hbb).more (Own.one ob) (Nat.le_refl _) (by omega) sb).put8 (p := ⟨w.heap.size + 1 + 1, 4, none⟩) (by show w.heap.size + 1 + 1 < _; omega) (.slice A3 s.gone.length k3)).put8 (p := ⟨w.heap.size + 1 + 1, 6, none⟩) (by show w.heap.size + 1 + 1 < _; omega) (.slice A4 s.dead.length k4)), (((bel_then (bel_then BB.drew hba) hbb).setCell (p := ⟨w.heap.size + 1 + 1, 4, none⟩) (by show w.heap.size ≤ w.heap.size + 1 + 1; omega) (.slice A3 s.gone.length k3)).setCell (p := ⟨w.heap.size + 1 + 1, 6, none⟩) (by show w.heap.size ≤ w.heap.size + 1 + 1; omega) (.slice A4 s.dead.length k4)), by simp only [size_set]; omega⟩
    case rest =>
      clear x0 x1 x2 x3 x4 x5 x6 x7 y0 y1 y2 y3 y4 y5 y6 y7 f0 f1 f2 f3 f4 f5 f6 f7 L1 hG hD a c d P BB sdd s2
      obtain ⟨A3, k3, A4, k4, a, c, d, P, BB, s3⟩ := hcut
      have FN := Fin8.mk2 (x := (⟨A1, k1, R2, r2, L2, l2, A3, k3, A4, k4⟩ : SA)) (s := s) (H := w.heap.size + 1) c (Nat.lt_succ_self _) (Nat.le_succ _) (P.base (base' := w.heap.size + 1 + 1) (by omega)) BB
      have HF := Lib.hid FN
      obtain ⟨x0, x1, x2, x3, x4, x5, x6, x7⟩ := a.cells
      obtain ⟨y0, y1, y2, y3, y4, y5, y6, y7⟩ := d.cells
      obtain ⟨g0, g1, g2, g3, g4, g5, g6, g7⟩ := c.fro
      obtain ⟨z0, z1, z2, z3, z4, z5, z6, z7⟩ := c.cells
      clear P BB a c d FN s3
      go_wp2_with fail
      change bodyPost Try.prog Try.f98 (TPost s w) Exit.ret _ (putS _ (w.heap.size + 1) (⟨A1, k1, R2, r2, L2, l2, A3, k3, A4, k4⟩ : SA) s)
      have HF := HF.out
      generalize putS _ _ _ _ = WF at HF ⊢
      clear x0 x1 x2 x3 x4 x5 x6 x7 y0 y1 y2 y3 y4 y5 y6 y7 g0 g1 g2 g3 g4 g5 g6 g7 z0 z1 z2 z3 z4 z5 z6 z7
      obtain ⟨⟨q0, q1, q2, q3, q4, q5, q6, q7⟩, ho, hb⟩ := (⟨HF.box.cells, HF.own, HF.bel⟩ : _ ∧ _ ∧ _)
      exact bodyPost_ret (v := .agg #[.slice A1 s.rows.length k1, .slice R2 s.sp.refs.length r2, .slice L2 s.sp.last.length l2, .int .i64 s.txg, .slice A3 s.gone.length k3, .int .i64 s.keep, .slice A4 s.dead.length k4, .bool s.same]) (by simp [results, Try.f98, go_sem, q0, q1, q2, q3, q4, q5, q6, q7]) rfl ⟨_, rfl, ho, hb⟩
end Go.Proofs.Ytmnamclndpfjnaa
