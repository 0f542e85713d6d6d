/-
  FnExactStoreRoom's walk.
-/
import Derived.Test.YtmnamclndpfjnaaArgS
import Derived.Test.YtmnamclndpfjnaaRms
import Derived.Test.YtmnamclndpfjnaaRmi
import Derived.Test.YtmnamclndpfjnaaStK
namespace Go.Proofs.Ytmnamclndpfjnaa
open Go.RowKit

set_option maxRecDepth 100000 in
set_option maxHeartbeats 16000000 in
theorem walk_esroom (x : SA) (s : St) (w : World) (hA : TArg w x s) :
    Calls Try.prog 9 #[(.agg #[.slice x.A s.rows.length x.a, .slice x.R s.sp.refs.length x.r, .slice x.L s.sp.last.length x.l, .int .i64 s.txg, .slice x.G s.gone.length x.g, .int .i64 s.keep, .slice x.D s.dead.length x.d, .bool s.same])] w fun r w' => r = .returned (.bool true) ∧ Below w.heap.size w w' := by
  have ba := B8.new w 36 (.slice x.A s.rows.length x.a) (.slice x.R s.sp.refs.length x.r) (.slice x.L s.sp.last.length x.l) (.int .i64 s.txg) (.slice x.G s.gone.length x.g) (.int .i64 s.keep) (.slice x.D s.dead.length x.d) (.bool s.same)
  have BB := bel_new (Below.refl w.heap.size w) (.cells #[.slice x.A s.rows.length x.a, .slice x.R s.sp.refs.length x.r, .slice x.L s.sp.last.length x.l, .int .i64 s.txg, .slice x.G s.gone.length x.g, .int .i64 s.keep, .slice x.D s.dead.length x.d, .bool s.same] 36)
  have hS := fun W (hW : Below w.heap.size w W) => sz_store x s 1048576 W (by omega) (by omega) hA.rows hA.refs hA.last hA.gone hA.dead hA.texts (hA.at_.rows.below hW)
  go_enter Try.func9, Try.ntmps9
  go_wp2_with (go_at_call 16; refine (hS _ BB).mono ?_; rintro r w1 ⟨z, rfl, hb1, hz⟩; refine Hid.out ?_)
  refine Lib.hid ?_
  have sw1 := hb1.size
  simp only [World.size_alloc] at sw1
  have ba := ba.below hb1
  have BB := bel_then BB hb1
  clear hS hb1
  obtain ⟨x0, x1, x2, x3, x4, x5, x6, x7⟩ := ba.cells
  by_cases hzz : z < 0
  · go_wp2_with fail
    go_ret
    exact ⟨rfl, BB⟩
  have hzn : ¬ z < 0 := hzz
  have hsum := hz.sum (by omega)
  have hbk : SBulk s := ⟨by omega, by omega, by omega, by omega, by omega, hA.texts, hA.wtxg, hA.wkeep, hA.nums⟩
  have hsm : SmallS s := ⟨by omega, by omega, by omega, by omega, by omega⟩
  have hat := hA.at_
  have hT := fun W (hW : Below w.heap.size w W) => to_store x s W hbk (hat.below hW)
  clear hA hz hsum
  have hSp := fun x w hA => spec_sroom x s w hbk hA
  have hIm := fun x w hA => impl_sroom x s w hbk hA
  obtain ⟨R, hR⟩ : ∃ R, R = roomSt s := ⟨_, rfl⟩
  simp only [← hR] at hSp hIm
  obtain ⟨t, v⟩ := R
  unfold RmPost at hSp hIm
  simp only at hSp hIm
  clear hR
  have nt : (t != t) = false := by simp
  have nv : (v != v) = false := by simp
  go_wp2_with (go_at_call 18; refine (hT _ BB).mono ?_; rintro r w2 ⟨xv, rfl, fv, hb2⟩; refine Hid.out ?_)
  refine Lib.hid ?_
  have sw2 := hb2.size
  have ba := ba.below hb2
  have BB := bel_then BB hb2
  clear hb2
  clear x0 x1 x2 x3 x4 x5 x6 x7
  have L := hSp xv w2 fv.at5
  go_wp2_with (go_at_call 30; refine (L).mono ?_; rintro r w3 ⟨rfl, hb3⟩; refine Hid.out ?_)
  refine Lib.hid ?_
  have sw3 := hb3.size
  have ba := ba.below hb3
  have BB := bel_then BB hb3
  clear L fv hSp hb3
  obtain ⟨x0, x1, x2, x3, x4, x5, x6, x7⟩ := ba.cells
  go_wp2_with (go_at_call 18; refine (hT _ BB).mono ?_; rintro r w4 ⟨xx, rfl, fx, hb4⟩; refine Hid.out ?_)
  refine Lib.hid ?_
  have sw4 := hb4.size
  have ba := ba.below hb4
  have BB := bel_then BB hb4
  clear hb4
  have bl : Below w4.heap.size w4 (w4.alloc (.cells #[.slice xx.A s.rows.length xx.a, .slice xx.R s.sp.refs.length xx.r, .slice xx.L s.sp.last.length xx.l, .int .i64 s.txg, .slice xx.G s.gone.length xx.g, .int .i64 s.keep, .slice xx.D s.dead.length xx.d, .bool s.same] 28)) := (Below.refl _ _).alloc (Nat.le_refl _) _
  have bx := B8.new w4 28 (.slice xx.A s.rows.length xx.a) (.slice xx.R s.sp.refs.length xx.r) (.slice xx.L s.sp.last.length xx.l) (.int .i64 s.txg) (.slice xx.G s.gone.length xx.g) (.int .i64 s.keep) (.slice xx.D s.dead.length xx.d) (.bool s.same)
  have saw4 : w4.heap.size < (w4.alloc (.cells #[.slice xx.A s.rows.length xx.a, .slice xx.R s.sp.refs.length xx.r, .slice xx.L s.sp.last.length xx.l, .int .i64 s.txg, .slice xx.G s.gone.length xx.g, .int .i64 s.keep, .slice xx.D s.dead.length xx.d, .bool s.same] 28)).heap.size := by rw [World.size_alloc]; exact Nat.lt_succ_self _
  have ba := ba.below bl
  have fx := fx.below bl
  have BB := bel_then BB bl
  clear bl
  clear x0 x1 x2 x3 x4 x5 x6 x7
  have L := hIm xx _ fx.at5
  obtain ⟨x0, x1, x2, x3, x4, x5, x6, x7⟩ := bx.cells
  go_wp2_with (go_at_call 31; refine (L).mono ?_; rintro r w5 ⟨rfl, hb5⟩; refine Hid.out ?_)
  refine Lib.hid ?_
  have sw5 := hb5.size
  have ba := ba.below hb5
  have bx := bx.below hb5
  have fx := fx.below hb5
  have BB := bel_then BB hb5
  clear L hIm hb5
  clear x0 x1 x2 x3 x4 x5 x6 x7
  obtain ⟨x0, x1, x2, x3, x4, x5, x6, x7⟩ := bx.cells
  obtain ⟨y0, y1, y2, y3, y4, y5, y6, y7⟩ := ba.cells
  have hTd := hT w5.drew BB.drew
  have fd := fx.drew
  go_upto_region 10 with fail
  go_cut [39] (fun s wx => s = .bool false ∧ Below w5.heap.size w5 wx)
  case first =>
    first
      | go_region_with (first
        | (go_at_call 18; refine hTd.mono ?_; rintro r w6 ⟨xt, rfl, ft, hb6⟩; obtain ⟨x0, x1, x2, x3, x4, x5, x6, x7⟩ := (B8.below (W := w5.drew) bx hb6).cells; have E := eq_store (w := w6) hbk (fd.below hb6) ft)
        | (go_at_call 13; refine E.mono ?_; rintro r w7 ⟨rfl, hb7⟩))
      | fail "region"
    all_goals go_wp2_with fail
    all_goals go_meet
    all_goals exact ⟨rfl, bel_then (bel_then (Below.refl _ _).drew hb6) hb7⟩
  case rest =>
    obtain ⟨rfl, hb7⟩ := hcut
    obtain ⟨w7, ew7, hb7⟩ : ∃ W, W = _ ∧ Below w5.heap.size w5 W := ⟨_, rfl, hb7⟩
    subst ew7
    have sw7 := hb7.size
    have ba := ba.below hb7
    have bx := bx.below hb7
    have fx := fx.below hb7
    have BB := bel_then BB hb7
    clear hTd fd hb7
    clear x0 x1 x2 x3 x4 x5 x6 x7
    clear y0 y1 y2 y3 y4 y5 y6 y7
    go_wp2_with fail
    go_ret
    exact ⟨rfl, BB⟩
end Go.Proofs.Ytmnamclndpfjnaa
