/-
  FnExactTreeAll's walk.
-/
import Derived.Test.YtjmfefaoenmppaaGreatDoorWTl
import Derived.Test.YtjmfefaoenmppaaGreatDoorTr3
namespace Go.Proofs.YtjmfefaoenmppaaGreatDoor
open Go.RowKit

theorem allO_25 {s : St} {t : Tr} : ((allO s t).getD []).length ≤ 25 := by
  unfold allO
  cases hp : plantO s t with
  | none => exact Nat.zero_le _
  | some L => exact Nat.le_trans (nh_le L) (plant_item hp).2

set_option maxRecDepth 100000 in
set_option maxHeartbeats 16000000 in
theorem walk_etall (x : SA) (s : St) (a b c d e dep many : Int) (w : World) (hA : TArg w x s) (hE : Fx.Env w) :
    Calls Tryz.prog 8 #[.agg #[.slice x.A s.rows.length x.a, .slice x.R s.sp.refs.length x.r, .slice x.L s.sp.last.length x.l, .int .i64 s.txg, .slice x.G s.gone.length x.g, .int .i64 s.keep, .slice x.D s.dead.length x.d, .bool s.same], .agg #[.int .i64 a, .int .i64 b, .int .i64 c, .int .i64 d, .int .i64 e, .int .i64 dep, .int .i64 many]] w fun r w' => r = .returned (.bool true) ∧ Below w.heap.size w w' := by
  have ba := (B8.new w 28 (.slice x.A s.rows.length x.a) (.slice x.R s.sp.refs.length x.r) (.slice x.L s.sp.last.length x.l) (.int .i64 s.txg) (.slice x.G s.gone.length x.g) (.int .i64 s.keep) (.slice x.D s.dead.length x.d) (.bool s.same)).alloc (.cells #[.int .i64 a, .int .i64 b, .int .i64 c, .int .i64 d, .int .i64 e, .int .i64 dep, .int .i64 many] 32)
  have bt := B7.new (w.alloc (.cells #[.slice x.A s.rows.length x.a, .slice x.R s.sp.refs.length x.r, .slice x.L s.sp.last.length x.l, .int .i64 s.txg, .slice x.G s.gone.length x.g, .int .i64 s.keep, .slice x.D s.dead.length x.d, .bool s.same] 28)) a b c d e dep many 32
  have BB : Below w.heap.size w ((w.alloc (.cells #[.slice x.A s.rows.length x.a, .slice x.R s.sp.refs.length x.r, .slice x.L s.sp.last.length x.l, .int .i64 s.txg, .slice x.G s.gone.length x.g, .int .i64 s.keep, .slice x.D s.dead.length x.d, .bool s.same] 28)).alloc (.cells #[.int .i64 a, .int .i64 b, .int .i64 c, .int .i64 d, .int .i64 e, .int .i64 dep, .int .i64 many] 32)) := bel_new (bel_new (Below.refl _ _) _) _
  rw [World.size_alloc] at bt
  have hS := fun W (hW : Below w.heap.size w W) => sz_store x s 1048576 W (by omega) (by omega) hA.rows hA.refs hA.last hA.gone hA.dead hA.texts (hA.at_.rows.below hW)
  have hEw := hE
  go_enter Tryz.func8, Tryz.ntmps8
  go_upto_region 1 with fail
  generalize hW0 : (w.alloc (.cells #[.slice x.A s.rows.length x.a, .slice x.R s.sp.refs.length x.r, .slice x.L s.sp.last.length x.l, .int .i64 s.txg, .slice x.G s.gone.length x.g, .int .i64 s.keep, .slice x.D s.dead.length x.d, .bool s.same] 28)).alloc (.cells #[.int .i64 a, .int .i64 b, .int .i64 c, .int .i64 d, .int .i64 e, .int .i64 dep, .int .i64 many] 32) = W0 at ba bt BB
  clear hW0 hE
  obtain ⟨x0, x1, x2, x3, x4, x5, x6, x7⟩ := ba.cells
  go_wp2_with (go_at_call 10; refine (hS _ BB).mono ?_; rintro r w1 ⟨z, rfl, hb1, hz⟩; refine Hid.out ?_)
  refine Lib.hid ?_
  have ba := ba.below hb1
  have bt := bt.below hb1
  have BB := bel_then BB hb1
  clear hS hb1 x0 x1 x2 x3 x4 x5 x6 x7
  by_cases hzz : z < 0
  · go_wp2_with fail
    go_ret
    exact ⟨rfl, BB⟩
  have hzn : ¬ z < 0 := hzz
  have hsum := hz.sum (by omega)
  have hbk : SBulk s := ⟨by omega, by omega, by omega, by omega, by omega, hA.texts, hA.wtxg, hA.wkeep, hA.nums⟩
  have hsm : SmallS s := ⟨by omega, by omega, by omega, by omega, by omega⟩
  have hat := hA.at_
  have hTo := fun W (hW : Below w.heap.size w W) => to_store x s W hbk (hat.below hW)
  have hTr := fun W => to_tree a b c d e dep many W
  have hSp := fun xv W (h : StAt W xv s) => spec_treeall xv s a b c d e dep many W hbk h
  have hIm := fun xv W (h : StAt W xv s) (hW : Below w.heap.size w W) => impl_treeall xv s a b c d e dep many W hbk h (hEw.at hW)
  have hQ16 := allO_25 (s := s) (t := ⟨⟨a, b, c, d, e⟩, dep, many⟩)
  obtain ⟨V, hV⟩ : ∃ V, V = allO s ⟨⟨a, b, c, d, e⟩, dep, many⟩ := ⟨_, rfl⟩
  simp only [← hV] at hSp hIm hQ16
  unfold LsPost at hSp hIm
  obtain ⟨Q, hQ⟩ : ∃ Q, Q = V.getD [] := ⟨_, rfl⟩
  obtain ⟨VB, hVB⟩ : ∃ VB, VB = V.isSome := ⟨_, rfl⟩
  simp only [← hQ, ← hVB] at hSp hIm hQ16
  clear hA hz hsum hV hEw hQ hVB V
  go_upto_region 5 with fail
  have baD := ba.drew
  have btD : B7 w1.drew (w.heap.size + 1) a b c d e dep many 32 := bt
  have Bd := BB.drew
  obtain ⟨x0, x1, x2, x3, x4, x5, x6, x7⟩ := baD.cells
  obtain ⟨y0, y1, y2, y3, y4, y5, y6⟩ := btD.cells
  go_cut [6, 7] (fun u v wx => (∃ (A : Option Addr) (cc : Nat), u = .slice A Q.length cc ∧ wx.ownsRow w1.heap.size 40 5 (.slice A Q.length cc) Q.length (flat Q)) ∧ v = .bool VB ∧ Below w1.heap.size w1 wx)
  case first =>
    clear hIm ba bt BB
    first
      | go_region_with (first
        | (go_at_call 12; refine (hTo _ (by first | exact Bd | exact bel_then Bd hbT)).mono ?_; rintro r wA ⟨xv, rfl, fv, hbS⟩; have hAt := fv.at5; have btA : B7 wA (w.heap.size + 1) a b c d e dep many 32 := (by first | exact btD.below hbS | exact (btD.below hbT).below hbS); obtain ⟨y0, y1, y2, y3, y4, y5, y6⟩ := btA.cells)
        | (go_at_call 13; refine (hTr _).mono ?_; rintro r wB ⟨rfl, hbT⟩; have baB : B8 wB w.heap.size 28 (.slice x.A s.rows.length x.a) (.slice x.R s.sp.refs.length x.r) (.slice x.L s.sp.last.length x.l) (.int .i64 s.txg) (.slice x.G s.gone.length x.g) (.int .i64 s.keep) (.slice x.D s.dead.length x.d) (.bool s.same) := (by first | exact baD.below hbT | exact (baD.below hbS).below hbT); obtain ⟨x0, x1, x2, x3, x4, x5, x6, x7⟩ := baB.cells)
        | (go_at_call 30; refine (hSp xv _ (by first | exact hAt | exact hAt.below hbT)).mono ?_; rintro r wC ⟨hbV, AV, cV, rfl, hoV⟩))
      | fail "region"
    all_goals go_wp2_with fail
    all_goals go_meet
    all_goals exact ⟨⟨_, _, rfl, own_base hoV (by first | exact (bel_then (bel_then (Below.refl _ w1).drew hbS) hbT).size | exact (bel_then (bel_then (Below.refl _ w1).drew hbT) hbS).size)⟩, rfl, by first | exact bel_then (bel_then (bel_then (Below.refl _ _).drew hbS) hbT) hbV | exact bel_then (bel_then (bel_then (Below.refl _ _).drew hbT) hbS) hbV⟩
  case rest =>
    obtain ⟨⟨As, cs, rfl, sv⟩, rfl, hb2⟩ := hcut
    obtain ⟨w2, ew2, hb2⟩ : ∃ W, W = _ ∧ Below w1.heap.size w1 W := ⟨_, rfl, hb2⟩
    subst ew2
    have hsl := fun k (h : (Value.slice As Q.length cs).ownBlock = some k) => (sv.lt k h).2
    clear baD btD Bd x0 x1 x2 x3 x4 x5 x6 x7 y0 y1 y2 y3 y4 y5 y6 hSp
    have ba := ba.below hb2
    have bt := bt.below hb2
    have hw2 := bt.lt
    have BB := bel_then BB hb2
    clear hb2
    obtain ⟨x0, x1, x2, x3, x4, x5, x6, x7⟩ := ba.cells
    go_wp2_with (go_at_call 12; refine (hTo _ BB).mono ?_; rintro r w4 ⟨xx, rfl, fx, hb4⟩; refine Hid.out ?_)
    refine Lib.hid ?_
    have ba := ba.below hb4
    have bt := bt.below hb4
    have BB := bel_then BB hb4
    have hb4x := hb4
    clear hb4 x0 x1 x2 x3 x4 x5 x6 x7
    have sv := own_bel sv hb4x
    have bl : Below w4.heap.size w4 (w4.alloc (.cells #[.slice xx.A s.rows.length xx.a, .slice xx.R s.sp.refs.length xx.r, .slice xx.L s.sp.last.length xx.l, .int .i64 s.txg, .slice xx.G s.gone.length xx.g, .int .i64 s.keep, .slice xx.D s.dead.length xx.d, .bool s.same] 38)) := (Below.refl _ _).alloc (Nat.le_refl _) _
    have bx := B8.new w4 38 (.slice xx.A s.rows.length xx.a) (.slice xx.R s.sp.refs.length xx.r) (.slice xx.L s.sp.last.length xx.l) (.int .i64 s.txg) (.slice xx.G s.gone.length xx.g) (.int .i64 s.keep) (.slice xx.D s.dead.length xx.d) (.bool s.same)
    have ba := ba.below bl
    have bt := bt.below bl
    have fx := fx.below bl
    have sv := own_bel sv bl
    have s24 := hb4x.size
    have s45 := bl.size
    have BB := bel_then BB bl
    clear bl
    go_upto_region 7 with fail
    generalize hW5 : w4.alloc (.cells #[.slice xx.A s.rows.length xx.a, .slice xx.R s.sp.refs.length xx.r, .slice xx.L s.sp.last.length xx.l, .int .i64 s.txg, .slice xx.G s.gone.length xx.g, .int .i64 s.keep, .slice xx.D s.dead.length xx.d, .bool s.same] 38) = w5 at ba bt bx fx BB sv s45 ⊢
    clear hW5
    have hAt := fx.at5
    have bxD := bx.drew
    have btD : B7 w5.drew (w.heap.size + 1) a b c d e dep many 32 := bt
    have Bd := BB.drew
    have hAtD := hAt.below (Below.refl _ w5).drew
    obtain ⟨x0, x1, x2, x3, x4, x5, x6, x7⟩ := bxD.cells
    obtain ⟨y0, y1, y2, y3, y4, y5, y6⟩ := btD.cells
    go_cut [9, 10] (fun u v wx => (∃ (A : Option Addr) (cc : Nat), u = .slice A Q.length cc ∧ wx.ownsRow w5.heap.size 40 5 (.slice A Q.length cc) Q.length (flat Q)) ∧ v = .bool VB ∧ Below w5.heap.size w5 wx)
    case first =>
      clear ba bt bx fx BB hTo hat hAt
      first
        | go_region_with (first
          | (go_at_call 13; refine (hTr _).mono ?_; rintro r wB ⟨rfl, hbT⟩; obtain ⟨x0, x1, x2, x3, x4, x5, x6, x7⟩ := (bxD.below hbT).cells)
          | (go_at_call 31; refine (hIm xx _ (hAtD.below hbT) (bel_then Bd hbT)).mono ?_; rintro r wC ⟨hbV, AV, cV, rfl, hoV⟩))
        | fail "region"
      all_goals go_wp2_with fail
      all_goals go_meet
      all_goals exact ⟨⟨_, _, rfl, own_base hoV (bel_then (Below.refl _ w5).drew hbT).size⟩, rfl, bel_then (bel_then (Below.refl _ _).drew hbT) hbV⟩
    case rest =>
      obtain ⟨⟨Ag, cg, rfl, gv⟩, rfl, hb6⟩ := hcut
      obtain ⟨w6, ew6, hb6⟩ : ∃ W, W = _ ∧ Below w5.heap.size w5 W := ⟨_, rfl, hb6⟩
      subst ew6
      have sv := own_bel sv hb6
      clear bxD btD Bd x0 x1 x2 x3 x4 x5 x6 x7 y0 y1 y2 y3 y4 y5 y6 hAt hAtD
      have bt := bt.below hb6
      have ba := ba.below hb6
      have bx := bx.below hb6
      have fx := fx.below hb6
      have BB := bel_then BB hb6
      clear hb6
      have nb : (VB != VB) = false := by simp
      have hn16 : Q.length ≤ 1048576 := by omega
      have gl := fun k (h : (Value.slice Ag Q.length cg).ownBlock = some k) => (gv.lt k h).1
      have hk4 : ¬ mk4 s < 0 := by unfold mk4 mk3 mk2 mk1; omega
      go_wp2_with (go_at_call 18; refine (eq_ptrsT hn16 gv sv).mono ?_; rintro r w7 ⟨rfl, hb7⟩; refine Hid.out ?_)
      refine Lib.hid ?_
      have ba := ba.below hb7
      have bt := bt.below hb7
      have bx := bx.below hb7
      have fx := fx.below hb7
      have sv := own_bel sv hb7
      have gv := own_bel gv hb7
      have BB := bel_then BB hb7
      clear hb7
      obtain ⟨x0, x1, x2, x3, x4, x5, x6, x7⟩ := bx.cells
      obtain ⟨y0, y1, y2, y3, y4, y5, y6, y7⟩ := ba.cells
      have hTd := hTo w7.drew BB.drew
      have fd := fx.drew
      go_upto_region 10 with fail
      go_cut [51] (fun s wx => s = .bool false ∧ Below w7.heap.size w7 wx)
      case first =>
        clear hIm hTr
        first
          | go_region_with (first
            | (go_at_call 12; refine hTd.mono ?_; rintro r w8 ⟨xt, rfl, ft, hb8⟩; obtain ⟨x0, x1, x2, x3, x4, x5, x6, x7⟩ := (B8.below (W := w7.drew) bx hb8).cells; have E := eq_store (w := w8) hbk (fd.below hb8) ft)
            | (go_at_call 15; refine E.mono ?_; rintro r w9 ⟨rfl, hb9⟩))
          | fail "region"
        all_goals go_wp2_with fail
        all_goals go_meet
        all_goals exact ⟨rfl, bel_then (bel_then (Below.refl _ _).drew hb8) hb9⟩
      case rest =>
        obtain ⟨rfl, hb8⟩ := hcut
        obtain ⟨w8, ew8, hb8⟩ : ∃ W, W = _ ∧ Below w7.heap.size w7 W := ⟨_, rfl, hb8⟩
        subst ew8
        have ba := ba.below hb8
        have bt := bt.below hb8
        have bx := bx.below hb8
        have fx := fx.below hb8
        have sv := own_bel sv hb8
        have gv := own_bel gv hb8
        have BB := bel_then BB hb8
        have s28 := BB.size
        have s58 := hb8.size
        clear hTd fd hb8 x0 x1 x2 x3 x4 x5 x6 x7 y0 y1 y2 y3 y4 y5 y6 y7
        obtain ⟨x0, x1, x2, x3, x4, x5, x6, x7⟩ := bx.cells
        have hMk := mark_store hsm (show w4.heap.size ≤ w8.heap.size by have := bx.lt; omega) fx
        go_wp2_with (go_at_call 19; refine hMk.mono ?_; rintro r w9 ⟨rfl, hom, hg9⟩; refine Hid.out ?_)
        refine Lib.hid ?_
        have ba := ba.only hg9 (by omega)
        have bt := bt.only hg9 (by omega)
        have sv := own_only sv hg9 (fun k hk => by have := hsl k hk; omega)
        have gv := own_only gv hg9 (fun k hk => by have := gl k hk; omega)
        have BB := BB.trans (hg9.below (by omega) (by omega))
        clear hMk hom hg9 bx fx x0 x1 x2 x3 x4 x5 x6 x7
        go_wp2_with (go_at_call 18; refine (eq_ptrsT hn16 gv sv).mono ?_; rintro r w10 ⟨rfl, hb10⟩; refine Hid.out ?_)
        refine Lib.hid ?_
        have ba := ba.below hb10
        have bt := bt.below hb10
        have sv := own_bel sv hb10
        have gv := own_bel gv hb10
        have BB := bel_then BB hb10
        clear hb10
        have gh := fun k (h : (Value.slice Ag Q.length cg).ownBlock = some k) => (gv.lt k h).2
        have hMp := mark_ptrsO 40 w5.heap.size Ag cg Q.length (flat Q) 1 w10 (by decide) (by omega) gv
        obtain ⟨M, hM⟩ : ∃ M, M = 1 + 5 * (Q.length : Int) := ⟨_, rfl⟩
        have hM0 : ¬ M < 0 := by omega
        have hMM : (M != M) = false := by simp
        unfold MarkPo at hMp
        rw [← hM] at hMp
        have HM := Lib.hid hM
        clear hM
        go_wp2_with (go_at_call 20; refine hMp.mono ?_; rintro r w11 ⟨rfl, mv, hg11⟩; refine Hid.out ?_)
        refine Lib.hid ?_
        have ho11 : Only w5.heap.size w10.heap.size w10 w11 := Only.of_grown hg11 (fun k hk => ⟨gl k hk, gh k hk⟩)
        have s25 : w2.heap.size ≤ w5.heap.size := by omega
        have ba := ba.only ho11 (by omega)
        have bt := bt.only ho11 (by omega)
        have sv := own_only sv ho11 (fun k hk => by have := hsl k hk; omega)
        have BB := BB.trans (ho11.below (by omega) (by have := BB.size; omega))
        clear hMp hg11 ho11 gv
        have hHp := held_ptrsO 40 w5.heap.size Ag cg Q.length 1 w11 (by decide) (by omega) mv
        rw [← HM.out] at hHp
        go_wp2_with (go_at_call 21; refine hHp.mono ?_; rintro r w12 ⟨rfl, rfl⟩; refine Hid.out ?_)
        refine Lib.hid ?_
        clear hHp
        go_upto_region 24 with fail
        have baD := ba.drew
        have btD : B7 w11.drew (w.heap.size + 1) a b c d e dep many 32 := bt
        have Bd := BB.drew
        obtain ⟨x0, x1, x2, x3, x4, x5, x6, x7⟩ := baD.cells
        obtain ⟨y0, y1, y2, y3, y4, y5, y6⟩ := btD.cells
        go_cut [14, 15] (fun u v wx => (∃ (A : Option Addr) (cc : Nat), u = .slice A Q.length cc ∧ wx.ownsRow w11.heap.size 40 5 (.slice A Q.length cc) Q.length (flat Q)) ∧ v = .bool VB ∧ Below w11.heap.size w11 wx)
        case first =>
          clear ba bt BB sv mv HM hM0 hMM
          first
            | go_region_with (first
              | (go_at_call 12; refine (hTo _ (by first | exact Bd | exact bel_then Bd hbT)).mono ?_; rintro r wA ⟨xv, rfl, fv, hbS⟩; have hAt := fv.at5; have btA : B7 wA (w.heap.size + 1) a b c d e dep many 32 := (by first | exact btD.below hbS | exact (btD.below hbT).below hbS); obtain ⟨y0, y1, y2, y3, y4, y5, y6⟩ := btA.cells)
              | (go_at_call 13; refine (hTr _).mono ?_; rintro r wB ⟨rfl, hbT⟩; have baB : B8 wB w.heap.size 28 (.slice x.A s.rows.length x.a) (.slice x.R s.sp.refs.length x.r) (.slice x.L s.sp.last.length x.l) (.int .i64 s.txg) (.slice x.G s.gone.length x.g) (.int .i64 s.keep) (.slice x.D s.dead.length x.d) (.bool s.same) := (by first | exact baD.below hbT | exact (baD.below hbS).below hbT); obtain ⟨x0, x1, x2, x3, x4, x5, x6, x7⟩ := baB.cells)
              | (go_at_call 31; refine (hIm xv _ (by first | exact hAt | exact hAt.below hbT) (by first | exact bel_then (bel_then Bd hbS) hbT | exact bel_then (bel_then Bd hbT) hbS)).mono ?_; rintro r wC ⟨hbV, AV, cV, rfl, hoV⟩))
            | fail "region"
          all_goals go_wp2_with fail
          all_goals go_meet
          all_goals exact ⟨⟨_, _, rfl, own_base hoV (by first | exact (bel_then (bel_then (Below.refl _ w11).drew hbS) hbT).size | exact (bel_then (bel_then (Below.refl _ w11).drew hbT) hbS).size)⟩, rfl, by first | exact bel_then (bel_then (bel_then (Below.refl _ _).drew hbS) hbT) hbV | exact bel_then (bel_then (bel_then (Below.refl _ _).drew hbT) hbS) hbV⟩
        case rest =>
          obtain ⟨⟨Ah, ch, rfl, hv⟩, rfl, hb12⟩ := hcut
          obtain ⟨w12, ew12, hb12⟩ : ∃ W, W = _ ∧ Below w11.heap.size w11 W := ⟨_, rfl, hb12⟩
          subst ew12
          have sv := own_bel sv hb12
          have mv := own_bel mv hb12
          have BB := bel_then BB hb12
          clear baD btD Bd x0 x1 x2 x3 x4 x5 x6 x7 y0 y1 y2 y3 y4 y5 y6 hb12 ba bt hTo hTr hIm
          go_wp2_with (go_at_call 18; refine (eq_ptrsT hn16 hv sv).mono ?_; rintro r w13 ⟨rfl, hb13⟩; refine Hid.out ?_)
          refine Lib.hid ?_
          have mv := own_bel mv hb13
          have BB := bel_then BB hb13
          clear hb13 hv sv
          have hHp := held_ptrsO 40 w5.heap.size Ag cg Q.length 1 w13 (by decide) (by omega) mv
          rw [← HM.out] at hHp
          clear HM
          go_wp2_with (go_at_call 21; refine hHp.mono ?_; rintro r w14 ⟨rfl, rfl⟩)
          go_ret
          exact ⟨rfl, BB⟩
end Go.Proofs.YtjmfefaoenmppaaGreatDoor
