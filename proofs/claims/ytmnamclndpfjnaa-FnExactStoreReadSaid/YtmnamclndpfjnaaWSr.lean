/-
  FnExactStoreRead's walk.
-/
import Derived.Test.YtmnamclndpfjnaaArgS
import Derived.Test.YtmnamclndpfjnaaRd
import Derived.Test.YtmnamclndpfjnaaStK
namespace Go.Proofs.Ytmnamclndpfjnaa
open Go.RowKit

set_option maxRecDepth 100000 in
set_option maxHeartbeats 16000000 in
theorem walk_esread (x : SA) (s : St) (a b c d e : Int) (w : World) (hA : TArg w x s) :
    Calls Try.prog 5 #[(.agg #[.slice x.A s.rows.length x.a, .slice x.R s.sp.refs.length x.r, .slice x.L s.sp.last.length x.l, .int .i64 s.txg, .slice x.G s.gone.length x.g, .int .i64 s.keep, .slice x.D s.dead.length x.d, .bool s.same]), .agg #[.int .i64 a, .int .i64 b, .int .i64 c, .int .i64 d, .int .i64 e]] w fun r w' => r = .returned (.bool true) ∧ Below w.heap.size w w' := by
  have ba := (B8.new w 36 (.slice x.A s.rows.length x.a) (.slice x.R s.sp.refs.length x.r) (.slice x.L s.sp.last.length x.l) (.int .i64 s.txg) (.slice x.G s.gone.length x.g) (.int .i64 s.keep) (.slice x.D s.dead.length x.d) (.bool s.same)).alloc (.cells #[.int .i64 a, .int .i64 b, .int .i64 c, .int .i64 d, .int .i64 e] 42)
  have hp := B5.new (w.alloc (.cells #[.slice x.A s.rows.length x.a, .slice x.R s.sp.refs.length x.r, .slice x.L s.sp.last.length x.l, .int .i64 s.txg, .slice x.G s.gone.length x.g, .int .i64 s.keep, .slice x.D s.dead.length x.d, .bool s.same] 36)) a b c d e 42
  rw [World.size_alloc] at hp
  have BB := bel_new (bel_new (Below.refl w.heap.size w) (.cells #[.slice x.A s.rows.length x.a, .slice x.R s.sp.refs.length x.r, .slice x.L s.sp.last.length x.l, .int .i64 s.txg, .slice x.G s.gone.length x.g, .int .i64 s.keep, .slice x.D s.dead.length x.d, .bool s.same] 36)) (.cells #[.int .i64 a, .int .i64 b, .int .i64 c, .int .i64 d, .int .i64 e] 42)
  have hTp : ∀ W, Calls Try.prog 21 #[.agg #[.int .i64 a, .int .i64 b, .int .i64 c, .int .i64 d, .int .i64 e]] W fun r w' => r = .returned (.agg #[.int .i64 a, .int .i64 b, .int .i64 c, .int .i64 d, .int .i64 e]) ∧ Below W.heap.size W w' := fun W => (to_ptr a b c d e W).mono fun r w' ⟨h1, h2⟩ => ⟨h1, by subst h2; exact bel_new (bel_new (bel_new (Below.refl _ _) _) _) _⟩
  have hS := fun W (hW : Below w.heap.size w W) => sz_store x s 1048576 W (by omega) (by omega) hA.rows hA.refs hA.last hA.gone hA.dead hA.texts (hA.at_.rows.below hW)
  go_enter Try.func5, Try.ntmps5
  go_wp2_with (go_at_call 16; refine (hS _ BB).mono ?_; rintro r w1 ⟨z, rfl, hb1, hz⟩; refine Hid.out ?_)
  refine Lib.hid ?_
  have sw1 := hb1.size
  simp only [World.size_alloc] at sw1
  have ba := ba.below hb1
  have hp := hp.below hb1
  have BB := bel_then BB hb1
  clear hS hb1
  obtain ⟨x0, x1, x2, x3, x4, x5, x6, x7⟩ := ba.cells
  by_cases hzz : z < 0
  · go_wp2_with fail
    go_ret
    exact ⟨rfl, BB⟩
  have hzn : ¬ z < 0 := hzz
  have hsum := hz.sum (by omega)
  have hbk : SBulk s := ⟨by omega, by omega, by omega, by omega, by omega, hA.texts, hA.wtxg, hA.wkeep, hA.nums⟩
  have hsm : SmallS s := ⟨by omega, by omega, by omega, by omega, by omega⟩
  have hat := hA.at_
  have hT := fun W (hW : Below w.heap.size w W) => to_store x s W hbk (hat.below hW)
  clear hA hz hsum
  obtain ⟨R, hR⟩ : ∃ R, R = readSt s ⟨a, b, c, d, e⟩ := ⟨_, rfl⟩
  have hSp := fun x w hA => spec_sread x s a b c d e w hbk hA
  have hIm := fun x w hA => impl_sread x s a b c d e w hbk hA
  simp only [← hR] at hSp hIm
  obtain ⟨t, v⟩ := R
  unfold RdPost at hSp hIm
  simp only at hSp hIm
  clear hR
  have nb : (v != v) = false := by simp
  have nt : (t != t) = false := by unfold bne; rw [show (t == t) = true from by rw [beq_toListBytes]; exact beq_self_eq_true _]; rfl
  have hTd := hT w1.drew BB.drew
  obtain ⟨q0, q1, q2, q3, q4, hgl⟩ := id hp
  go_upto_region 5 with fail
  go_cut [6, 7] (fun s0 s1 wx => s0 = .string t ∧ s1 = .bool v ∧ Below w1.heap.size w1 wx)
  case first =>
    first
      | go_region_with (first
        | (go_at_call 18; refine hTd.mono ?_; rintro r wa ⟨xv, rfl, fv, hba⟩; obtain ⟨y0, y1, y2, y3, y4, _⟩ := B5.below (W := w1.drew) hp hba)
        | (go_at_call 21; refine (hTp _).mono ?_; rintro r wb ⟨rfl, hbb⟩; have L := hSp xv wb (fv.below hbb).at5)
        | (go_at_call 20; refine L.mono ?_; rintro r wc ⟨rfl, hbc⟩))
      | fail "region"
    all_goals go_wp2_with fail
    all_goals (try go_simp)
    all_goals go_meet
    all_goals exact ⟨rfl, rfl, bel_then (bel_then (bel_then (Below.refl _ _).drew hba) hbb) hbc⟩
  case rest =>
    obtain ⟨rfl, rfl, hb2⟩ := hcut
    obtain ⟨w2, ew2, hb2⟩ : ∃ W, W = _ ∧ Below w1.heap.size w1 W := ⟨_, rfl, hb2⟩
    subst ew2
    have sw2 := hb2.size
    have ba := ba.below hb2
    have hp := hp.below hb2
    have BB := bel_then BB hb2
    clear q0 q1 q2 q3 q4 hgl hTd hSp hb2
    clear x0 x1 x2 x3 x4 x5 x6 x7
    obtain ⟨x0, x1, x2, x3, x4, x5, x6, x7⟩ := ba.cells
    go_wp2_with (go_at_call 18; refine (hT _ BB).mono ?_; rintro r w3 ⟨xx, rfl, fx, hb3⟩; refine Hid.out ?_)
    refine Lib.hid ?_
    have sw3 := hb3.size
    have ba := ba.below hb3
    have hp := hp.below hb3
    have BB := bel_then BB hb3
    clear hb3
    have bl : Below w3.heap.size w3 (w3.alloc (.cells #[.slice xx.A s.rows.length xx.a, .slice xx.R s.sp.refs.length xx.r, .slice xx.L s.sp.last.length xx.l, .int .i64 s.txg, .slice xx.G s.gone.length xx.g, .int .i64 s.keep, .slice xx.D s.dead.length xx.d, .bool s.same] 28)) := (Below.refl _ _).alloc (Nat.le_refl _) _
    have bx := B8.new w3 28 (.slice xx.A s.rows.length xx.a) (.slice xx.R s.sp.refs.length xx.r) (.slice xx.L s.sp.last.length xx.l) (.int .i64 s.txg) (.slice xx.G s.gone.length xx.g) (.int .i64 s.keep) (.slice xx.D s.dead.length xx.d) (.bool s.same)
    have saw3 : w3.heap.size < (w3.alloc (.cells #[.slice xx.A s.rows.length xx.a, .slice xx.R s.sp.refs.length xx.r, .slice xx.L s.sp.last.length xx.l, .int .i64 s.txg, .slice xx.G s.gone.length xx.g, .int .i64 s.keep, .slice xx.D s.dead.length xx.d, .bool s.same] 28)).heap.size := by rw [World.size_alloc]; exact Nat.lt_succ_self _
    have ba := ba.below bl
    have fx := fx.below bl
    have hp := hp.below bl
    have BB := bel_then BB bl
    clear bl
    clear x0 x1 x2 x3 x4 x5 x6 x7
    obtain ⟨x0, x1, x2, x3, x4, x5, x6, x7⟩ := bx.cells
    obtain ⟨q0, q1, q2, q3, q4, hgl⟩ := id hp
    have fd := fx.drew
    go_upto_region 7 with fail
    go_cut [9, 10] (fun s0 s1 wx => s0 = .string t ∧ s1 = .bool v ∧ Below (w3.alloc (.cells #[.slice xx.A s.rows.length xx.a, .slice xx.R s.sp.refs.length xx.r, .slice xx.L s.sp.last.length xx.l, .int .i64 s.txg, .slice xx.G s.gone.length xx.g, .int .i64 s.keep, .slice xx.D s.dead.length xx.d, .bool s.same] 28)).heap.size (w3.alloc (.cells #[.slice xx.A s.rows.length xx.a, .slice xx.R s.sp.refs.length xx.r, .slice xx.L s.sp.last.length xx.l, .int .i64 s.txg, .slice xx.G s.gone.length xx.g, .int .i64 s.keep, .slice xx.D s.dead.length xx.d, .bool s.same] 28)) wx)
    case first =>
      first
        | go_region_with (first
          | (go_at_call 21; refine (hTp _).mono ?_; rintro r wb ⟨rfl, hbb⟩; obtain ⟨y0, y1, y2, y3, y4, y5, y6, y7⟩ := (B8.below (W := (w3.alloc (.cells #[.slice xx.A s.rows.length xx.a, .slice xx.R s.sp.refs.length xx.r, .slice xx.L s.sp.last.length xx.l, .int .i64 s.txg, .slice xx.G s.gone.length xx.g, .int .i64 s.keep, .slice xx.D s.dead.length xx.d, .bool s.same] 28)).drew) bx hbb).cells; have L := hIm xx wb (Own.below (w := (w3.alloc (.cells #[.slice xx.A s.rows.length xx.a, .slice xx.R s.sp.refs.length xx.r, .slice xx.L s.sp.last.length xx.l, .int .i64 s.txg, .slice xx.G s.gone.length xx.g, .int .i64 s.keep, .slice xx.D s.dead.length xx.d, .bool s.same] 28)).drew) fd hbb).at5)
          | (go_at_call 22; refine L.mono ?_; rintro r wc ⟨rfl, hbc⟩))
        | fail "region"
      all_goals go_wp2_with fail
      all_goals (try go_simp)
      all_goals go_meet
      all_goals exact ⟨rfl, rfl, bel_then (bel_then (Below.refl _ _).drew hbb) hbc⟩
    case rest =>
      obtain ⟨rfl, rfl, hb4⟩ := hcut
      obtain ⟨w4, ew4, hb4⟩ : ∃ W, W = _ ∧ Below (w3.alloc (.cells #[.slice xx.A s.rows.length xx.a, .slice xx.R s.sp.refs.length xx.r, .slice xx.L s.sp.last.length xx.l, .int .i64 s.txg, .slice xx.G s.gone.length xx.g, .int .i64 s.keep, .slice xx.D s.dead.length xx.d, .bool s.same] 28)).heap.size (w3.alloc (.cells #[.slice xx.A s.rows.length xx.a, .slice xx.R s.sp.refs.length xx.r, .slice xx.L s.sp.last.length xx.l, .int .i64 s.txg, .slice xx.G s.gone.length xx.g, .int .i64 s.keep, .slice xx.D s.dead.length xx.d, .bool s.same] 28)) W := ⟨_, rfl, hb4⟩
      subst ew4
      have sw4 := hb4.size
      rw [World.size_alloc] at sw4
      have ba := ba.below hb4
      have bx := bx.below hb4
      have fx := fx.below hb4
      have hp := hp.below hb4
      have BB := bel_then BB hb4
      clear q0 q1 q2 q3 q4 hgl fd hTp hIm hb4
      clear x0 x1 x2 x3 x4 x5 x6 x7
      obtain ⟨x0, x1, x2, x3, x4, x5, x6, x7⟩ := bx.cells
      obtain ⟨y0, y1, y2, y3, y4, y5, y6, y7⟩ := ba.cells
      have hTd := hT w4.drew BB.drew
      have fd := fx.drew
      go_upto_region 10 with fail
      go_cut [45] (fun s wx => s = .bool false ∧ Below w4.heap.size w4 wx)
      case first =>
        first
          | go_region_with (first
            | (go_at_call 18; refine hTd.mono ?_; rintro r w5 ⟨xt, rfl, ft, hb5⟩; obtain ⟨x0, x1, x2, x3, x4, x5, x6, x7⟩ := (B8.below (W := w4.drew) bx hb5).cells; have E := eq_store (w := w5) hbk (fd.below hb5) ft)
            | (go_at_call 13; refine E.mono ?_; rintro r w6 ⟨rfl, hb6⟩))
          | fail "region"
        all_goals go_wp2_with fail
        all_goals go_meet
        all_goals exact ⟨rfl, bel_then (bel_then (Below.refl _ _).drew hb5) hb6⟩
      case rest =>
        obtain ⟨rfl, hb6⟩ := hcut
        obtain ⟨w6, ew6, hb6⟩ : ∃ W, W = _ ∧ Below w4.heap.size w4 W := ⟨_, rfl, hb6⟩
        subst ew6
        have sw6 := hb6.size
        have ba := ba.below hb6
        have bx := bx.below hb6
        have fx := fx.below hb6
        have hp := hp.below hb6
        have BB := bel_then BB hb6
        clear hTd fd hb6
        clear x0 x1 x2 x3 x4 x5 x6 x7
        clear y0 y1 y2 y3 y4 y5 y6 y7
        go_wp2_with fail
        go_ret
        exact ⟨rfl, BB⟩
end Go.Proofs.Ytmnamclndpfjnaa
