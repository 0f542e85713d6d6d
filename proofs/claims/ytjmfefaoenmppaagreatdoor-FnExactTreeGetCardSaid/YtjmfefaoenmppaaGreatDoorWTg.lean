/-
  FnExactTreeGet's walk.
-/
import Derived.Test.YtjmfefaoenmppaaGreatDoorTx
import Derived.Test.YtjmfefaoenmppaaGreatDoorTi
import Derived.Test.YtjmfefaoenmppaaGreatDoorKD
import Derived.Test.YtjmfefaoenmppaaGreatDoorStK
namespace Go.Proofs.YtjmfefaoenmppaaGreatDoor
open Go.RowKit

set_option maxRecDepth 100000 in
set_option maxHeartbeats 16000000 in
theorem walk_etget (x : SA) (s : St) (a b c d e dep many k : Int) (w : World) (hA : TArg w x s) (hE : Fx.Env w) :
    Calls Tryz.prog 5 #[.agg #[.slice x.A s.rows.length x.a, .slice x.R s.sp.refs.length x.r, .slice x.L s.sp.last.length x.l, .int .i64 s.txg, .slice x.G s.gone.length x.g, .int .i64 s.keep, .slice x.D s.dead.length x.d, .bool s.same], .agg #[.int .i64 a, .int .i64 b, .int .i64 c, .int .i64 d, .int .i64 e, .int .i64 dep, .int .i64 many], .int .i64 k] w fun r w' => r = .returned (.bool true) ∧ Below w.heap.size w w' := by
  have ba := (B8.new w 28 (.slice x.A s.rows.length x.a) (.slice x.R s.sp.refs.length x.r) (.slice x.L s.sp.last.length x.l) (.int .i64 s.txg) (.slice x.G s.gone.length x.g) (.int .i64 s.keep) (.slice x.D s.dead.length x.d) (.bool s.same)).alloc (.cells #[.int .i64 a, .int .i64 b, .int .i64 c, .int .i64 d, .int .i64 e, .int .i64 dep, .int .i64 many] 32)
  have bt := B7.new (w.alloc (.cells #[.slice x.A s.rows.length x.a, .slice x.R s.sp.refs.length x.r, .slice x.L s.sp.last.length x.l, .int .i64 s.txg, .slice x.G s.gone.length x.g, .int .i64 s.keep, .slice x.D s.dead.length x.d, .bool s.same] 28)) a b c d e dep many 32
  have BB : Below w.heap.size w ((w.alloc (.cells #[.slice x.A s.rows.length x.a, .slice x.R s.sp.refs.length x.r, .slice x.L s.sp.last.length x.l, .int .i64 s.txg, .slice x.G s.gone.length x.g, .int .i64 s.keep, .slice x.D s.dead.length x.d, .bool s.same] 28)).alloc (.cells #[.int .i64 a, .int .i64 b, .int .i64 c, .int .i64 d, .int .i64 e, .int .i64 dep, .int .i64 many] 32)) := bel_new (bel_new (Below.refl _ _) _) _
  rw [World.size_alloc] at bt
  have hS := fun W (hW : Below w.heap.size w W) => sz_store x s 1048576 W (by omega) (by omega) hA.rows hA.refs hA.last hA.gone hA.dead hA.texts (hA.at_.rows.below hW)
  have hEw := hE
  go_enter Tryz.func5, Tryz.ntmps5
  go_upto_region 1 with fail
  generalize hW0 : (w.alloc (.cells #[.slice x.A s.rows.length x.a, .slice x.R s.sp.refs.length x.r, .slice x.L s.sp.last.length x.l, .int .i64 s.txg, .slice x.G s.gone.length x.g, .int .i64 s.keep, .slice x.D s.dead.length x.d, .bool s.same] 28)).alloc (.cells #[.int .i64 a, .int .i64 b, .int .i64 c, .int .i64 d, .int .i64 e, .int .i64 dep, .int .i64 many] 32) = W0 at ba bt BB
  clear hW0 hE
  obtain ⟨x0, x1, x2, x3, x4, x5, x6, x7⟩ := ba.cells
  go_wp2_with (go_at_call 10; refine (hS _ BB).mono ?_; rintro r w1 ⟨z, rfl, hb1, hz⟩; refine Hid.out ?_)
  refine Lib.hid ?_
  have ba := ba.below hb1
  have bt := bt.below hb1
  have BB := bel_then BB hb1
  clear hS hb1 x0 x1 x2 x3 x4 x5 x6 x7
  by_cases hzz : z < 0
  · go_wp2_with fail
    go_ret
    exact ⟨rfl, BB⟩
  have hzn : ¬ z < 0 := hzz
  have hsum := hz.sum (by omega)
  have hbk : SBulk s := ⟨by omega, by omega, by omega, by omega, by omega, hA.texts, hA.wtxg, hA.wkeep, hA.nums⟩
  have hsm : SmallS s := ⟨by omega, by omega, by omega, by omega, by omega⟩
  have hat := hA.at_
  have hTo := fun W (hW : Below w.heap.size w W) => to_store x s W hbk (hat.below hW)
  have hTr := fun W => to_tree a b c d e dep many W
  have hSp := fun xv W (h : StAt W xv s) => spec_treeget xv s a b c d e dep many k W hbk h
  have hIm := fun xv W (h : StAt W xv s) (hW : Below w.heap.size w W) => impl_treeget xv s a b c d e dep many k W hbk h (hEw.at hW)
  obtain ⟨⟨tx, V⟩, hV⟩ : ∃ V, V = getT s ⟨⟨a, b, c, d, e⟩, dep, many⟩ k := ⟨_, rfl⟩
  simp only [← hV] at hSp hIm
  clear hA hz hsum hV hEw
  go_upto_region 5 with fail
  have baD := ba.drew
  have btD : B7 w1.drew (w.heap.size + 1) a b c d e dep many 32 := bt
  have Bd := BB.drew
  obtain ⟨x0, x1, x2, x3, x4, x5, x6, x7⟩ := baD.cells
  obtain ⟨y0, y1, y2, y3, y4, y5, y6⟩ := btD.cells
  go_cut [8, 9] (fun u v wx => u = .string tx ∧ v = .bool V ∧ Below w1.heap.size w1 wx)
  case first =>
    clear hIm ba bt BB
    first
      | go_region_with (first
        | (go_at_call 12; refine (hTo _ (by first | exact Bd | exact bel_then Bd hbT)).mono ?_; rintro r wA ⟨xv, rfl, fv, hbS⟩; have hAt := fv.at5; have btA : B7 wA (w.heap.size + 1) a b c d e dep many 32 := (by first | exact btD.below hbS | exact (btD.below hbT).below hbS); obtain ⟨y0, y1, y2, y3, y4, y5, y6⟩ := btA.cells)
        | (go_at_call 13; refine (hTr _).mono ?_; rintro r wB ⟨rfl, hbT⟩; have baB : B8 wB w.heap.size 28 (.slice x.A s.rows.length x.a) (.slice x.R s.sp.refs.length x.r) (.slice x.L s.sp.last.length x.l) (.int .i64 s.txg) (.slice x.G s.gone.length x.g) (.int .i64 s.keep) (.slice x.D s.dead.length x.d) (.bool s.same) := (by first | exact baD.below hbT | exact (baD.below hbS).below hbT); obtain ⟨x0, x1, x2, x3, x4, x5, x6, x7⟩ := baB.cells)
        | (go_at_call 22; refine (hSp xv _ (by first | exact hAt | exact hAt.below hbT)).mono ?_; rintro r wC ⟨rfl, hbV⟩))
      | fail "region"
    all_goals go_wp2_with fail
    all_goals go_meet
    all_goals exact ⟨rfl, rfl, by first | exact bel_then (bel_then (bel_then (Below.refl _ _).drew hbS) hbT) hbV | exact bel_then (bel_then (bel_then (Below.refl _ _).drew hbT) hbS) hbV⟩
  case rest =>
    obtain ⟨rfl, rfl, hb2⟩ := hcut
    obtain ⟨w2, ew2, hb2⟩ : ∃ W, W = _ ∧ Below w1.heap.size w1 W := ⟨_, rfl, hb2⟩
    subst ew2
    clear baD btD Bd x0 x1 x2 x3 x4 x5 x6 x7 y0 y1 y2 y3 y4 y5 y6 hSp
    have ba := ba.below hb2
    have bt := bt.below hb2
    have BB := bel_then BB hb2
    clear hb2
    obtain ⟨x0, x1, x2, x3, x4, x5, x6, x7⟩ := ba.cells
    go_wp2_with (go_at_call 12; refine (hTo _ BB).mono ?_; rintro r w4 ⟨xx, rfl, fx, hb4⟩; refine Hid.out ?_)
    refine Lib.hid ?_
    have ba := ba.below hb4
    have bt := bt.below hb4
    have BB := bel_then BB hb4
    clear hb4 x0 x1 x2 x3 x4 x5 x6 x7
    have bl : Below w4.heap.size w4 (w4.alloc (.cells #[.slice xx.A s.rows.length xx.a, .slice xx.R s.sp.refs.length xx.r, .slice xx.L s.sp.last.length xx.l, .int .i64 s.txg, .slice xx.G s.gone.length xx.g, .int .i64 s.keep, .slice xx.D s.dead.length xx.d, .bool s.same] 38)) := (Below.refl _ _).alloc (Nat.le_refl _) _
    have bx := B8.new w4 38 (.slice xx.A s.rows.length xx.a) (.slice xx.R s.sp.refs.length xx.r) (.slice xx.L s.sp.last.length xx.l) (.int .i64 s.txg) (.slice xx.G s.gone.length xx.g) (.int .i64 s.keep) (.slice xx.D s.dead.length xx.d) (.bool s.same)
    have ba := ba.below bl
    have bt := bt.below bl
    have fx := fx.below bl
    have BB := bel_then BB bl
    clear bl
    go_upto_region 7 with fail
    generalize hW5 : w4.alloc (.cells #[.slice xx.A s.rows.length xx.a, .slice xx.R s.sp.refs.length xx.r, .slice xx.L s.sp.last.length xx.l, .int .i64 s.txg, .slice xx.G s.gone.length xx.g, .int .i64 s.keep, .slice xx.D s.dead.length xx.d, .bool s.same] 38) = w5 at ba bt bx fx BB
    clear hW5
    have hAt := fx.at5
    have bxD := bx.drew
    have btD : B7 w5.drew (w.heap.size + 1) a b c d e dep many 32 := bt
    have Bd := BB.drew
    have hAtD := hAt.below (Below.refl _ w5).drew
    obtain ⟨x0, x1, x2, x3, x4, x5, x6, x7⟩ := bxD.cells
    obtain ⟨y0, y1, y2, y3, y4, y5, y6⟩ := btD.cells
    go_cut [11, 12] (fun u v wx => u = .string tx ∧ v = .bool V ∧ Below w5.heap.size w5 wx)
    case first =>
      clear ba bt bx fx BB hTo hat hAt
      first
        | go_region_with (first
          | (go_at_call 13; refine (hTr _).mono ?_; rintro r wB ⟨rfl, hbT⟩; obtain ⟨x0, x1, x2, x3, x4, x5, x6, x7⟩ := (bxD.below hbT).cells)
          | (go_at_call 23; refine (hIm xx _ (hAtD.below hbT) (bel_then Bd hbT)).mono ?_; rintro r wC ⟨rfl, hbV⟩))
        | fail "region"
      all_goals go_wp2_with fail
      all_goals go_meet
      all_goals exact ⟨rfl, rfl, bel_then (bel_then (Below.refl _ _).drew hbT) hbV⟩
    case rest =>
      obtain ⟨rfl, rfl, hb6⟩ := hcut
      obtain ⟨w6, ew6, hb6⟩ : ∃ W, W = _ ∧ Below w5.heap.size w5 W := ⟨_, rfl, hb6⟩
      subst ew6
      clear bxD btD Bd x0 x1 x2 x3 x4 x5 x6 x7 y0 y1 y2 y3 y4 y5 y6 hIm hTr hAt hAtD
      have ba := ba.below hb6
      have bx := bx.below hb6
      have fx := fx.below hb6
      have BB := bel_then BB hb6
      clear hb6 bt
      have nb : (V != V) = false := by simp
      have ns : (!tx.toList == tx.toList) = false := by simp
      obtain ⟨x0, x1, x2, x3, x4, x5, x6, x7⟩ := bx.cells
      obtain ⟨y0, y1, y2, y3, y4, y5, y6, y7⟩ := ba.cells
      have hTd := hTo w6.drew BB.drew
      have fd := fx.drew
      go_upto_region 10 with fail
      go_cut [49] (fun s wx => s = .bool false ∧ Below w6.heap.size w6 wx)
      case first =>
        first
          | go_region_with (first
            | (go_at_call 12; refine hTd.mono ?_; rintro r w7 ⟨xt, rfl, ft, hb7⟩; obtain ⟨x0, x1, x2, x3, x4, x5, x6, x7⟩ := (B8.below (W := w6.drew) bx hb7).cells; have E := eq_store (w := w7) hbk (fd.below hb7) ft)
            | (go_at_call 15; refine E.mono ?_; rintro r w8 ⟨rfl, hb8⟩))
          | fail "region"
        all_goals go_wp2_with fail
        all_goals go_meet
        all_goals exact ⟨rfl, bel_then (bel_then (Below.refl _ _).drew hb7) hb8⟩
      case rest =>
        obtain ⟨rfl, hb7⟩ := hcut
        obtain ⟨w7, ew7, hb7⟩ : ∃ W, W = _ ∧ Below w6.heap.size w6 W := ⟨_, rfl, hb7⟩
        subst ew7
        have BF := bel_then BB hb7
        clear hTd fd hb7 x0 x1 x2 x3 x4 x5 x6 x7 y0 y1 y2 y3 y4 y5 y6 y7
        go_wp2_with fail
        go_ret
        exact ⟨rfl, BF⟩
end Go.Proofs.YtjmfefaoenmppaaGreatDoor
