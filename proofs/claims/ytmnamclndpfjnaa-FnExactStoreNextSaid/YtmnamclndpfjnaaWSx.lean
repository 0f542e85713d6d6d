/-
  FnExactStoreNext's walk.
-/
import Derived.Test.YtmnamclndpfjnaaArgS
import Derived.Test.YtmnamclndpfjnaaNxj
import Derived.Test.YtmnamclndpfjnaaStK
namespace Go.Proofs.Ytmnamclndpfjnaa
open Go.RowKit

theorem small_next {s : St} (h : SmallS s) : SmallS (nextS s) := by
  unfold nextS
  split
  · rename_i hc
    have hl := next_ok hc.1
    have e1 : (nextSt s).rows.length = s.rows.length := emptTo_len _ _ _
    have e2 : (nextSt s).sp.refs.length = 64 := hl.1
    have e3 : (nextSt s).sp.last.length = 64 := hl.2.1
    have e4 := hc.1.len
    obtain ⟨a, b, c, d, f⟩ := h
    exact ⟨by omega, by omega, by omega, by omega, by show 5 * 0 + 5 * s.dead.length ≤ 6000000; omega⟩
  · exact ⟨by decide, by decide, by decide, by decide, by decide⟩
theorem b0_size : b0.size = 0 := rfl
theorem bulk_next {s : St} (h : SBulk s) : SBulk (nextS s) := by
  unfold nextS
  split
  · rename_i hc
    have hl := next_ok hc.1
    have e1 : (nextSt s).rows.length = s.rows.length := emptTo_len _ _ _
    have e2 : (nextSt s).sp.refs.length = 64 := hl.1
    have e3 : (nextSt s).sp.last.length = 64 := hl.2.1
    have e4 := hc.1.len
    have ht := hc.1.txg
    refine ⟨by omega, by omega, by omega, by show 0 ≤ 1048576; omega, h.dead, ?_, ?_, h.keep, ?_⟩
    · intro t hm
      have hm : t ∈ emptTo _ s.rows 64 := hm
      obtain ⟨i, hi, rfl⟩ := List.getElem_of_mem hm
      rw [emptTo_at]
      split
      · rw [b0_size]; exact Nat.zero_le _
      · exact h.texts _ (List.getElem_mem _)
    · show (Lit.int .i64 (s.txg + 1)).wf = true
      exact WalkArith.wf_i64 (by omega)
    · intro p hp
      exact h.nums p (List.mem_append.2 (.inr hp))
  · exact ⟨by decide, by decide, by decide, by decide, by decide, fun t ht => by simp [noSt] at ht, by decide, by decide, fun p hp => by simp [noSt] at hp⟩

set_option maxRecDepth 100000 in
set_option maxHeartbeats 16000000 in
theorem walk_esnext (x : SA) (s : St) (w : World) (hA : TArg w x s) :
    Calls Try.prog 8 #[(.agg #[.slice x.A s.rows.length x.a, .slice x.R s.sp.refs.length x.r, .slice x.L s.sp.last.length x.l, .int .i64 s.txg, .slice x.G s.gone.length x.g, .int .i64 s.keep, .slice x.D s.dead.length x.d, .bool s.same])] w fun r w' => r = .returned (.bool true) ∧ Below w.heap.size w w' := by
  have ba := B8.new w 36 (.slice x.A s.rows.length x.a) (.slice x.R s.sp.refs.length x.r) (.slice x.L s.sp.last.length x.l) (.int .i64 s.txg) (.slice x.G s.gone.length x.g) (.int .i64 s.keep) (.slice x.D s.dead.length x.d) (.bool s.same)
  have BB := bel_new (Below.refl w.heap.size w) (.cells #[.slice x.A s.rows.length x.a, .slice x.R s.sp.refs.length x.r, .slice x.L s.sp.last.length x.l, .int .i64 s.txg, .slice x.G s.gone.length x.g, .int .i64 s.keep, .slice x.D s.dead.length x.d, .bool s.same] 36)
  have hS := fun W (hW : Below w.heap.size w W) => sz_store x s 1048576 W (by omega) (by omega) hA.rows hA.refs hA.last hA.gone hA.dead hA.texts (hA.at_.rows.below hW)
  go_enter Try.func8, Try.ntmps8
  go_wp2_with (go_at_call 16; refine (hS _ BB).mono ?_; rintro r w1 ⟨z, rfl, hb1, hz⟩; refine Hid.out ?_)
  refine Lib.hid ?_
  have sw1 := hb1.size
  simp only [World.size_alloc] at sw1
  have ba := ba.below hb1
  have BB := bel_then BB hb1
  clear hS hb1
  obtain ⟨x0, x1, x2, x3, x4, x5, x6, x7⟩ := ba.cells
  by_cases hzz : z < 0
  · go_wp2_with fail
    go_ret
    exact ⟨rfl, BB⟩
  have hzn : ¬ z < 0 := hzz
  have hsum := hz.sum (by omega)
  have hbk : SBulk s := ⟨by omega, by omega, by omega, by omega, by omega, hA.texts, hA.wtxg, hA.wkeep, hA.nums⟩
  have hsm : SmallS s := ⟨by omega, by omega, by omega, by omega, by omega⟩
  have hat := hA.at_
  have hT := fun W (hW : Below w.heap.size w W) => to_store x s W hbk (hat.below hW)
  clear hA hz hsum
  have hV := fun (y : SA) (W : World) (h : StAt W y s) => spec_snext y s W hbk h
  have hI := fun (y : SA) (W : World) (h : StAt W y s) => impl_stnext y s W hbk h
  have hbn := bulk_next hbk
  have hsn := small_next hsm
  obtain ⟨n, hn⟩ : ∃ n, n = nextS s := ⟨_, rfl⟩
  obtain ⟨q, hq⟩ : ∃ q, q = nextB s := ⟨_, rfl⟩
  simp only [← hn, ← hq] at hV hI
  rw [← hn] at hbn hsn
  clear hn hq
  have qq : (q != q) = false := by simp
  obtain ⟨m, hm⟩ : ∃ m, m = mk4 n := ⟨_, rfl⟩
  have nm : ¬ m < 0 := by rw [hm]; unfold mk4 mk3 mk2 mk1; omega
  have nn : (m != m) = false := by simp
  have hH := fun {w : World} {base top : Nat} {x : SA} (h : Own w base top (rowsM x n)) => held_store hsn h
  have hM := fun {w : World} {base top : Nat} {x : SA} (htop : top ≤ w.heap.size) (h : Own w base top (rows5 x n)) => mark_store hsn htop h
  unfold MkPost at hM
  simp only [← hm] at hM hH
  clear hm
  obtain ⟨m0, hm0⟩ : ∃ m, m = mk4 s := ⟨_, rfl⟩
  have nm0 : ¬ m0 < 0 := by rw [hm0]; unfold mk4 mk3 mk2 mk1; omega
  have hM0 := fun {w : World} {base top : Nat} {x : SA} (htop : top ≤ w.heap.size) (h : Own w base top (rows5 x s)) => mark_store hsm htop h
  unfold MkPost at hM0
  simp only [← hm0] at hM0
  clear hm0
  go_wp2_with (go_at_call 18; refine (hT _ BB).mono ?_; rintro r w2 ⟨xc, rfl, fc, hb2⟩; refine Hid.out ?_)
  refine Lib.hid ?_
  have sw2 := hb2.size
  have ba := ba.below hb2
  have BB := bel_then BB hb2
  clear hb2
  clear x0 x1 x2 x3 x4 x5 x6 x7
  have L := hV xc w2 fc.at5
  go_wp2_with (go_at_call 28; refine (L).mono ?_; rintro r w3 ⟨xv, rfl, fv, hb3⟩; refine Hid.out ?_)
  refine Lib.hid ?_
  have sw3 := hb3.size
  have ba := ba.below hb3
  have BB := bel_then BB hb3
  clear hb3
  have bl : Below w3.heap.size w3 (w3.alloc (.cells #[.slice xv.A n.rows.length xv.a, .slice xv.R n.sp.refs.length xv.r, .slice xv.L n.sp.last.length xv.l, .int .i64 n.txg, .slice xv.G n.gone.length xv.g, .int .i64 n.keep, .slice xv.D n.dead.length xv.d, .bool n.same] 28)) := (Below.refl _ _).alloc (Nat.le_refl _) _
  have bv := B8.new w3 28 (.slice xv.A n.rows.length xv.a) (.slice xv.R n.sp.refs.length xv.r) (.slice xv.L n.sp.last.length xv.l) (.int .i64 n.txg) (.slice xv.G n.gone.length xv.g) (.int .i64 n.keep) (.slice xv.D n.dead.length xv.d) (.bool n.same)
  have saw3 : w3.heap.size < (w3.alloc (.cells #[.slice xv.A n.rows.length xv.a, .slice xv.R n.sp.refs.length xv.r, .slice xv.L n.sp.last.length xv.l, .int .i64 n.txg, .slice xv.G n.gone.length xv.g, .int .i64 n.keep, .slice xv.D n.dead.length xv.d, .bool n.same] 28)).heap.size := by rw [World.size_alloc]; exact Nat.lt_succ_self _
  have ba := ba.below bl
  have fv := fv.below bl
  have BB := bel_then BB bl
  clear bl
  clear L
  clear fc
  obtain ⟨x0, x1, x2, x3, x4, x5, x6, x7⟩ := ba.cells
  go_wp2_with (go_at_call 18; refine (hT _ BB).mono ?_; rintro r w4 ⟨xx, rfl, fx, hb4⟩; refine Hid.out ?_)
  refine Lib.hid ?_
  have sw4 := hb4.size
  have ba := ba.below hb4
  have bv := bv.below hb4
  have fv := fv.below hb4
  have BB := bel_then BB hb4
  clear hb4
  have bl : Below w4.heap.size w4 (w4.alloc (.cells #[.slice xx.A s.rows.length xx.a, .slice xx.R s.sp.refs.length xx.r, .slice xx.L s.sp.last.length xx.l, .int .i64 s.txg, .slice xx.G s.gone.length xx.g, .int .i64 s.keep, .slice xx.D s.dead.length xx.d, .bool s.same] 28)) := (Below.refl _ _).alloc (Nat.le_refl _) _
  have bx := B8.new w4 28 (.slice xx.A s.rows.length xx.a) (.slice xx.R s.sp.refs.length xx.r) (.slice xx.L s.sp.last.length xx.l) (.int .i64 s.txg) (.slice xx.G s.gone.length xx.g) (.int .i64 s.keep) (.slice xx.D s.dead.length xx.d) (.bool s.same)
  have saw4 : w4.heap.size < (w4.alloc (.cells #[.slice xx.A s.rows.length xx.a, .slice xx.R s.sp.refs.length xx.r, .slice xx.L s.sp.last.length xx.l, .int .i64 s.txg, .slice xx.G s.gone.length xx.g, .int .i64 s.keep, .slice xx.D s.dead.length xx.d, .bool s.same] 28)).heap.size := by rw [World.size_alloc]; exact Nat.lt_succ_self _
  have ba := ba.below bl
  have bv := bv.below bl
  have fv := fv.below bl
  have fx := fx.below bl
  have BB := bel_then BB bl
  clear bl
  clear x0 x1 x2 x3 x4 x5 x6 x7
  obtain ⟨x0, x1, x2, x3, x4, x5, x6, x7⟩ := bx.cells
  have L := hI xx (w4.alloc (.cells #[.slice xx.A s.rows.length xx.a, .slice xx.R s.sp.refs.length xx.r, .slice xx.L s.sp.last.length xx.l, .int .i64 s.txg, .slice xx.G s.gone.length xx.g, .int .i64 s.keep, .slice xx.D s.dead.length xx.d, .bool s.same] 28)) fx.at5
  go_wp2_with (go_at_call 29; refine (L).mono ?_; rintro r w5 ⟨xu, rfl, fu, hb5⟩; refine Hid.out ?_)
  refine Lib.hid ?_
  have sw5 := hb5.size
  have ba := ba.below hb5
  have bv := bv.below hb5
  have bx := bx.below hb5
  have fv := fv.below hb5
  have fx := fx.below hb5
  have BB := bel_then BB hb5
  clear hb5
  have bl : Below w5.heap.size w5 (w5.alloc (.cells #[.slice xu.A n.rows.length xu.a, .slice xu.R n.sp.refs.length xu.r, .slice xu.L n.sp.last.length xu.l, .int .i64 n.txg, .slice xu.G n.gone.length xu.g, .int .i64 n.keep, .slice xu.D n.dead.length xu.d, .bool n.same] 28)) := (Below.refl _ _).alloc (Nat.le_refl _) _
  have bu := B8.new w5 28 (.slice xu.A n.rows.length xu.a) (.slice xu.R n.sp.refs.length xu.r) (.slice xu.L n.sp.last.length xu.l) (.int .i64 n.txg) (.slice xu.G n.gone.length xu.g) (.int .i64 n.keep) (.slice xu.D n.dead.length xu.d) (.bool n.same)
  have saw5 : w5.heap.size < (w5.alloc (.cells #[.slice xu.A n.rows.length xu.a, .slice xu.R n.sp.refs.length xu.r, .slice xu.L n.sp.last.length xu.l, .int .i64 n.txg, .slice xu.G n.gone.length xu.g, .int .i64 n.keep, .slice xu.D n.dead.length xu.d, .bool n.same] 28)).heap.size := by rw [World.size_alloc]; exact Nat.lt_succ_self _
  have ba := ba.below bl
  have bv := bv.below bl
  have bx := bx.below bl
  have fv := fv.below bl
  have fx := fx.below bl
  have fu := fu.below bl
  have BB := bel_then BB bl
  clear bl
  clear L
  clear x0 x1 x2 x3 x4 x5 x6 x7
  have E := eq_store (w := (w5.alloc (.cells #[.slice xu.A n.rows.length xu.a, .slice xu.R n.sp.refs.length xu.r, .slice xu.L n.sp.last.length xu.l, .int .i64 n.txg, .slice xu.G n.gone.length xu.g, .int .i64 n.keep, .slice xu.D n.dead.length xu.d, .bool n.same] 28))) hbn fu fv
  obtain ⟨x0, x1, x2, x3, x4, x5, x6, x7⟩ := bu.cells
  obtain ⟨y0, y1, y2, y3, y4, y5, y6, y7⟩ := bv.cells
  go_wp2_with (go_at_call 13; refine (E).mono ?_; rintro r w6 ⟨rfl, hb6⟩; refine Hid.out ?_)
  refine Lib.hid ?_
  have sw6 := hb6.size
  have ba := ba.below hb6
  have bv := bv.below hb6
  have bx := bx.below hb6
  have bu := bu.below hb6
  have fv := fv.below hb6
  have fx := fx.below hb6
  have fu := fu.below hb6
  have BB := bel_then BB hb6
  clear E hb6
  clear x0 x1 x2 x3 x4 x5 x6 x7
  clear y0 y1 y2 y3 y4 y5 y6 y7
  obtain ⟨x0, x1, x2, x3, x4, x5, x6, x7⟩ := bx.cells
  obtain ⟨y0, y1, y2, y3, y4, y5, y6, y7⟩ := ba.cells
  have hTd := hT w6.drew BB.drew
  have fd := fx.drew
  go_upto_region 10 with fail
  go_cut [45] (fun s wx => s = .bool false ∧ Below w6.heap.size w6 wx)
  case first =>
    first
      | go_region_with (first
        | (go_at_call 18; refine hTd.mono ?_; rintro r w7 ⟨xt, rfl, ft, hb7⟩; obtain ⟨x0, x1, x2, x3, x4, x5, x6, x7⟩ := (B8.below (W := w6.drew) bx hb7).cells; have E := eq_store (w := w7) hbk (fd.below hb7) ft)
        | (go_at_call 13; refine E.mono ?_; rintro r w8 ⟨rfl, hb8⟩))
      | fail "region"
    all_goals go_wp2_with fail
    all_goals go_meet
    all_goals exact ⟨rfl, bel_then (bel_then (Below.refl _ _).drew hb7) hb8⟩
  case rest =>
    obtain ⟨rfl, hb8⟩ := hcut
    obtain ⟨w8, ew8, hb8⟩ : ∃ W, W = _ ∧ Below w6.heap.size w6 W := ⟨_, rfl, hb8⟩
    subst ew8
    have sw8 := hb8.size
    have ba := ba.below hb8
    have bv := bv.below hb8
    have bx := bx.below hb8
    have bu := bu.below hb8
    have fv := fv.below hb8
    have fx := fx.below hb8
    have fu := fu.below hb8
    have BB := bel_then BB hb8
    clear hTd fd hb8
    clear x0 x1 x2 x3 x4 x5 x6 x7
    clear y0 y1 y2 y3 y4 y5 y6 y7
    obtain ⟨x0, x1, x2, x3, x4, x5, x6, x7⟩ := bx.cells
    have M := hM0 (by omega) fx
    clear fx
    go_wp2_with (go_at_call 14; refine (M).mono ?_; rintro r w9 ⟨rfl, fx, on⟩; refine Hid.out ?_)
    refine Lib.hid ?_
    have sw9 := on.size
    have BB := BB.trans (on.below (B := w.heap.size) (by omega) (by omega))
    have ba := ba.only on (by omega)
    have bv := bv.only on (by omega)
    have bx := bx.only on (by omega)
    have bu := bu.only on (by omega)
    have fv := fv.only on (by omega)
    have fu := fu.only on (by omega)
    clear M on fx
    clear x0 x1 x2 x3 x4 x5 x6 x7
    have E := eq_store (w := w9) hbn fu fv
    obtain ⟨x0, x1, x2, x3, x4, x5, x6, x7⟩ := bu.cells
    obtain ⟨y0, y1, y2, y3, y4, y5, y6, y7⟩ := bv.cells
    go_wp2_with (go_at_call 13; refine (E).mono ?_; rintro r w10 ⟨rfl, hb10⟩; refine Hid.out ?_)
    refine Lib.hid ?_
    have sw10 := hb10.size
    have ba := ba.below hb10
    have bv := bv.below hb10
    have bx := bx.below hb10
    have bu := bu.below hb10
    have fv := fv.below hb10
    have fu := fu.below hb10
    have BB := bel_then BB hb10
    clear E hb10
    clear x0 x1 x2 x3 x4 x5 x6 x7
    clear y0 y1 y2 y3 y4 y5 y6 y7
    obtain ⟨x0, x1, x2, x3, x4, x5, x6, x7⟩ := bu.cells
    have M := hM (by omega) fu
    clear fu
    go_wp2_with (go_at_call 14; refine (M).mono ?_; rintro r w11 ⟨rfl, fu, on⟩; refine Hid.out ?_)
    refine Lib.hid ?_
    have sw11 := on.size
    have BB := BB.trans (on.below (B := w.heap.size) (by omega) (by omega))
    have ba := ba.only on (by omega)
    have bv := bv.only on (by omega)
    have bx := bx.only on (by omega)
    have bu := bu.only on (by omega)
    have fv := fv.only on (by omega)
    clear M on
    clear x0 x1 x2 x3 x4 x5 x6 x7
    obtain ⟨x0, x1, x2, x3, x4, x5, x6, x7⟩ := bu.cells
    have H := hH fu
    go_wp2_with (go_at_call 15; refine (H).mono ?_; rintro r w12 ⟨rfl, hb12⟩; refine Hid.out ?_)
    refine Lib.hid ?_
    have sw12 := hb12.size
    have ba := ba.below hb12
    have bv := bv.below hb12
    have bx := bx.below hb12
    have bu := bu.below hb12
    have fv := fv.below hb12
    have fu := fu.below hb12
    have BB := bel_then BB hb12
    clear H hb12
    clear x0 x1 x2 x3 x4 x5 x6 x7
    obtain ⟨x0, x1, x2, x3, x4, x5, x6, x7⟩ := ba.cells
    go_wp2_with (go_at_call 18; refine (hT _ BB).mono ?_; rintro r w13 ⟨xd, rfl, fd, hb13⟩; refine Hid.out ?_)
    refine Lib.hid ?_
    have sw13 := hb13.size
    have ba := ba.below hb13
    have bv := bv.below hb13
    have bx := bx.below hb13
    have bu := bu.below hb13
    have fv := fv.below hb13
    have fu := fu.below hb13
    have BB := bel_then BB hb13
    clear hb13
    clear x0 x1 x2 x3 x4 x5 x6 x7
    have L := hI xd w13 fd.at5
    go_wp2_with (go_at_call 29; refine (L).mono ?_; rintro r w14 ⟨xz, rfl, fz, hb14⟩; refine Hid.out ?_)
    refine Lib.hid ?_
    have sw14 := hb14.size
    have ba := ba.below hb14
    have bv := bv.below hb14
    have bx := bx.below hb14
    have bu := bu.below hb14
    have fv := fv.below hb14
    have fu := fu.below hb14
    have BB := bel_then BB hb14
    clear hb14
    have bl : Below w14.heap.size w14 (w14.alloc (.cells #[.slice xz.A n.rows.length xz.a, .slice xz.R n.sp.refs.length xz.r, .slice xz.L n.sp.last.length xz.l, .int .i64 n.txg, .slice xz.G n.gone.length xz.g, .int .i64 n.keep, .slice xz.D n.dead.length xz.d, .bool n.same] 28)) := (Below.refl _ _).alloc (Nat.le_refl _) _
    have bz := B8.new w14 28 (.slice xz.A n.rows.length xz.a) (.slice xz.R n.sp.refs.length xz.r) (.slice xz.L n.sp.last.length xz.l) (.int .i64 n.txg) (.slice xz.G n.gone.length xz.g) (.int .i64 n.keep) (.slice xz.D n.dead.length xz.d) (.bool n.same)
    have saw14 : w14.heap.size < (w14.alloc (.cells #[.slice xz.A n.rows.length xz.a, .slice xz.R n.sp.refs.length xz.r, .slice xz.L n.sp.last.length xz.l, .int .i64 n.txg, .slice xz.G n.gone.length xz.g, .int .i64 n.keep, .slice xz.D n.dead.length xz.d, .bool n.same] 28)).heap.size := by rw [World.size_alloc]; exact Nat.lt_succ_self _
    have ba := ba.below bl
    have bv := bv.below bl
    have bx := bx.below bl
    have bu := bu.below bl
    have fv := fv.below bl
    have fu := fu.below bl
    have fz := fz.below bl
    have BB := bel_then BB bl
    clear bl
    clear L
    clear fd
    have E := eq_store (w := (w14.alloc (.cells #[.slice xz.A n.rows.length xz.a, .slice xz.R n.sp.refs.length xz.r, .slice xz.L n.sp.last.length xz.l, .int .i64 n.txg, .slice xz.G n.gone.length xz.g, .int .i64 n.keep, .slice xz.D n.dead.length xz.d, .bool n.same] 28))) hbn fz fv
    obtain ⟨x0, x1, x2, x3, x4, x5, x6, x7⟩ := bz.cells
    obtain ⟨y0, y1, y2, y3, y4, y5, y6, y7⟩ := bv.cells
    go_wp2_with (go_at_call 13; refine (E).mono ?_; rintro r w15 ⟨rfl, hb15⟩; refine Hid.out ?_)
    refine Lib.hid ?_
    have sw15 := hb15.size
    have ba := ba.below hb15
    have bv := bv.below hb15
    have bx := bx.below hb15
    have bu := bu.below hb15
    have bz := bz.below hb15
    have fv := fv.below hb15
    have fu := fu.below hb15
    have fz := fz.below hb15
    have BB := bel_then BB hb15
    clear E hb15
    clear x0 x1 x2 x3 x4 x5 x6 x7
    clear y0 y1 y2 y3 y4 y5 y6 y7
    obtain ⟨x0, x1, x2, x3, x4, x5, x6, x7⟩ := bu.cells
    have H := hH fu
    go_wp2_with (go_at_call 15; refine H.mono ?_; rintro r w16 ⟨rfl, hb16⟩)
    go_ret
    exact ⟨rfl, bel_then BB hb16⟩
end Go.Proofs.Ytmnamclndpfjnaa
