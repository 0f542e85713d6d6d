/-
  FnExactStoreWrite's walk.
-/
import Derived.Test.YtmnamclndpfjnaaArgS
import Derived.Test.YtmnamclndpfjnaaIsw
import Derived.Test.YtmnamclndpfjnaaSsw
import Derived.Test.YtmnamclndpfjnaaStK
namespace Go.Proofs.Ytmnamclndpfjnaa
open Go.RowKit

theorem small_write {s : St} {t : ByteArray} {lv : Int} (h : SmallS s) : SmallS (writeS s t lv) := by
  obtain ⟨a, b, c, d, f⟩ := h
  unfold writeS
  split
  · have e1 : ∀ n, (putSt s n t).rows.length = s.rows.length := fun n => List.length_set ..
    have e2 : ∀ n, (putSt s n t).sp.refs.length = s.sp.refs.length := fun n => List.length_set ..
    have e3 : ∀ n, (putSt s n t).sp.last.length = s.sp.last.length := fun n => List.length_set ..
    exact ⟨by rw [e1]; exact a, by rw [e2]; exact b, by rw [e3]; exact c, by rw [e1, e2, e3]; exact d, f⟩
  · exact ⟨by decide, by decide, by decide, by decide, by decide⟩
theorem bulk_write {s : St} {t : ByteArray} {lv : Int} (h : SBulk s) : SBulk (writeS s t lv) := by
  unfold writeS
  split
  · rename_i hc
    have e1 : ∀ n, (putSt s n t).rows.length = s.rows.length := fun n => List.length_set ..
    have e2 : ∀ n, (putSt s n t).sp.refs.length = s.sp.refs.length := fun n => List.length_set ..
    have e3 : ∀ n, (putSt s n t).sp.last.length = s.sp.last.length := fun n => List.length_set ..
    refine ⟨by rw [e1]; exact h.rows, by rw [e2]; exact h.refs, by rw [e3]; exact h.last, h.gone, h.dead, ?_, h.txg, h.keep, h.nums⟩
    intro u hu
    rcases List.mem_or_eq_of_mem_set hu with hu | rfl
    · exact h.texts u hu
    · have := hc.2.1.2
      unfold maxLen
      omega
  · exact ⟨by decide, by decide, by decide, by decide, by decide, fun t ht => by simp [noSt] at ht, by decide, by decide, fun p hp => by simp [noSt] at hp⟩

set_option maxRecDepth 100000 in
set_option maxHeartbeats 16000000 in
theorem walk_eswrite (x : SA) (s : St) (t : ByteArray) (lv : Int) (w : World) (hA : TArg w x s) :
    Calls Try.prog 6 #[(.agg #[.slice x.A s.rows.length x.a, .slice x.R s.sp.refs.length x.r, .slice x.L s.sp.last.length x.l, .int .i64 s.txg, .slice x.G s.gone.length x.g, .int .i64 s.keep, .slice x.D s.dead.length x.d, .bool s.same]), .string t, .int .i64 lv] w fun r w' => r = .returned (.bool true) ∧ Below w.heap.size w w' := by
  have ba := B8.new w 36 (.slice x.A s.rows.length x.a) (.slice x.R s.sp.refs.length x.r) (.slice x.L s.sp.last.length x.l) (.int .i64 s.txg) (.slice x.G s.gone.length x.g) (.int .i64 s.keep) (.slice x.D s.dead.length x.d) (.bool s.same)
  have BB := bel_new (Below.refl w.heap.size w) (.cells #[.slice x.A s.rows.length x.a, .slice x.R s.sp.refs.length x.r, .slice x.L s.sp.last.length x.l, .int .i64 s.txg, .slice x.G s.gone.length x.g, .int .i64 s.keep, .slice x.D s.dead.length x.d, .bool s.same] 36)
  by_cases hbig : (1048576 : Int) < (t.size : Int)
  · go_enter Try.func6, Try.ntmps6
    go_wp2_with fail
    go_ret
    exact ⟨rfl, BB⟩
  have hS := fun W (hW : Below w.heap.size w W) => sz_store x s 1048576 W (by omega) (by omega) hA.rows hA.refs hA.last hA.gone hA.dead hA.texts (hA.at_.rows.below hW)
  go_enter Try.func6, Try.ntmps6
  go_wp2_with (go_at_call 16; refine (hS _ BB).mono ?_; rintro r w1 ⟨z, rfl, hb1, hz⟩; refine Hid.out ?_)
  refine Lib.hid ?_
  have sw1 := hb1.size
  simp only [World.size_alloc] at sw1
  have ba := ba.below hb1
  have BB := bel_then BB hb1
  clear hS hb1
  obtain ⟨x0, x1, x2, x3, x4, x5, x6, x7⟩ := ba.cells
  by_cases hzz : z < 0
  · go_wp2_with fail
    go_ret
    exact ⟨rfl, BB⟩
  have hzn : ¬ z < 0 := hzz
  have hsum := hz.sum (by omega)
  have hbk : SBulk s := ⟨by omega, by omega, by omega, by omega, by omega, hA.texts, hA.wtxg, hA.wkeep, hA.nums⟩
  have hsm : SmallS s := ⟨by omega, by omega, by omega, by omega, by omega⟩
  have hat := hA.at_
  have hT := fun W (hW : Below w.heap.size w W) => to_store x s W hbk (hat.below hW)
  clear hA hz hsum
  have hV := fun (y : SA) (W : World) (h : StAt W y s) => spec_swrite y s t lv W hbk h
  have hI := fun (y : SA) (W : World) (h : StAt W y s) => impl_swrite y s t lv W hbk h
  have hbn := bulk_write (t := t) (lv := lv) hbk
  have hsn := small_write (t := t) (lv := lv) hsm
  unfold TPost3 at hV hI
  obtain ⟨n, hn⟩ : ∃ n, n = writeS s t lv := ⟨_, rfl⟩
  obtain ⟨q, hq⟩ : ∃ q, q = writeF s t lv := ⟨_, rfl⟩
  obtain ⟨⟨pa, pb, pc, pd, pe⟩, hp⟩ : ∃ p, p = writeP s t lv := ⟨_, rfl⟩
  simp only [← hn, ← hq, ← hp] at hV hI
  rw [← hn] at hbn hsn
  clear hn hq hp
  have hEP : ∀ W, Calls Try.prog 25 #[.agg #[.int .i64 pa, .int .i64 pb, .int .i64 pc, .int .i64 pd, .int .i64 pe], .agg #[.int .i64 pa, .int .i64 pb, .int .i64 pc, .int .i64 pd, .int .i64 pe]] W fun r w' => r = .returned (.bool true) ∧ Below W.heap.size W w' := fun W => (eq_ptr pa pb pc pd pe W).mono fun r w' ⟨h1, h2⟩ => ⟨h1, by subst h2; exact bel_new (bel_new (Below.refl _ _) _) _⟩
  have qq : (q != q) = false := by simp
  obtain ⟨m, hm⟩ : ∃ m, m = mk4 n := ⟨_, rfl⟩
  have nm : ¬ m < 0 := by rw [hm]; unfold mk4 mk3 mk2 mk1; omega
  have nn : (m != m) = false := by simp
  have hH := fun {w : World} {base top : Nat} {x : SA} (h : Own w base top (rowsM x n)) => held_store hsn h
  have hM := fun {w : World} {base top : Nat} {x : SA} (htop : top ≤ w.heap.size) (h : Own w base top (rows5 x n)) => mark_store hsn htop h
  unfold MkPost at hM
  simp only [← hm] at hM hH
  clear hm
  obtain ⟨m0, hm0⟩ : ∃ m, m = mk4 s := ⟨_, rfl⟩
  have nm0 : ¬ m0 < 0 := by rw [hm0]; unfold mk4 mk3 mk2 mk1; omega
  have hM0 := fun {w : World} {base top : Nat} {x : SA} (htop : top ≤ w.heap.size) (h : Own w base top (rows5 x s)) => mark_store hsm htop h
  unfold MkPost at hM0
  simp only [← hm0] at hM0
  clear hm0
  go_wp2_with (go_at_call 18; refine (hT _ BB).mono ?_; rintro r w2 ⟨xc, rfl, fc, hb2⟩; refine Hid.out ?_)
  refine Lib.hid ?_
  have sw2 := hb2.size
  have ba := ba.below hb2
  have BB := bel_then BB hb2
  clear hb2
  clear x0 x1 x2 x3 x4 x5 x6 x7
  have L := hV xc w2 fc.at5
  go_wp2_with (go_at_call 23; refine (L).mono ?_; rintro r w3 ⟨xv, rfl, fv, hb3⟩; refine Hid.out ?_)
  refine Lib.hid ?_
  have sw3 := hb3.size
  have ba := ba.below hb3
  have BB := bel_then BB hb3
  clear L hb3
  have bl : Below w3.heap.size w3 (w3.alloc (.cells #[.slice xv.A n.rows.length xv.a, .slice xv.R n.sp.refs.length xv.r, .slice xv.L n.sp.last.length xv.l, .int .i64 n.txg, .slice xv.G n.gone.length xv.g, .int .i64 n.keep, .slice xv.D n.dead.length xv.d, .bool n.same] 28)) := (Below.refl _ _).alloc (Nat.le_refl _) _
  have bv := B8.new w3 28 (.slice xv.A n.rows.length xv.a) (.slice xv.R n.sp.refs.length xv.r) (.slice xv.L n.sp.last.length xv.l) (.int .i64 n.txg) (.slice xv.G n.gone.length xv.g) (.int .i64 n.keep) (.slice xv.D n.dead.length xv.d) (.bool n.same)
  have saw3 : w3.heap.size < (w3.alloc (.cells #[.slice xv.A n.rows.length xv.a, .slice xv.R n.sp.refs.length xv.r, .slice xv.L n.sp.last.length xv.l, .int .i64 n.txg, .slice xv.G n.gone.length xv.g, .int .i64 n.keep, .slice xv.D n.dead.length xv.d, .bool n.same] 28)).heap.size := by rw [World.size_alloc]; exact Nat.lt_succ_self _
  have ba := ba.below bl
  have fv := fv.below bl
  have BB := bel_then BB bl
  clear bl
  have bl : Below (w3.alloc (.cells #[.slice xv.A n.rows.length xv.a, .slice xv.R n.sp.refs.length xv.r, .slice xv.L n.sp.last.length xv.l, .int .i64 n.txg, .slice xv.G n.gone.length xv.g, .int .i64 n.keep, .slice xv.D n.dead.length xv.d, .bool n.same] 28)).heap.size (w3.alloc (.cells #[.slice xv.A n.rows.length xv.a, .slice xv.R n.sp.refs.length xv.r, .slice xv.L n.sp.last.length xv.l, .int .i64 n.txg, .slice xv.G n.gone.length xv.g, .int .i64 n.keep, .slice xv.D n.dead.length xv.d, .bool n.same] 28)) ((w3.alloc (.cells #[.slice xv.A n.rows.length xv.a, .slice xv.R n.sp.refs.length xv.r, .slice xv.L n.sp.last.length xv.l, .int .i64 n.txg, .slice xv.G n.gone.length xv.g, .int .i64 n.keep, .slice xv.D n.dead.length xv.d, .bool n.same] 28)).alloc (.cells #[.int .i64 pa, .int .i64 pb, .int .i64 pc, .int .i64 pd, .int .i64 pe] 45)) := (Below.refl _ _).alloc (Nat.le_refl _) _
  have vv := V5.new (w3.alloc (.cells #[.slice xv.A n.rows.length xv.a, .slice xv.R n.sp.refs.length xv.r, .slice xv.L n.sp.last.length xv.l, .int .i64 n.txg, .slice xv.G n.gone.length xv.g, .int .i64 n.keep, .slice xv.D n.dead.length xv.d, .bool n.same] 28)) pa pb pc pd pe
  have sbw3 : (w3.alloc (.cells #[.slice xv.A n.rows.length xv.a, .slice xv.R n.sp.refs.length xv.r, .slice xv.L n.sp.last.length xv.l, .int .i64 n.txg, .slice xv.G n.gone.length xv.g, .int .i64 n.keep, .slice xv.D n.dead.length xv.d, .bool n.same] 28)).heap.size < ((w3.alloc (.cells #[.slice xv.A n.rows.length xv.a, .slice xv.R n.sp.refs.length xv.r, .slice xv.L n.sp.last.length xv.l, .int .i64 n.txg, .slice xv.G n.gone.length xv.g, .int .i64 n.keep, .slice xv.D n.dead.length xv.d, .bool n.same] 28)).alloc (.cells #[.int .i64 pa, .int .i64 pb, .int .i64 pc, .int .i64 pd, .int .i64 pe] 45)).heap.size := by simp only [World.size_alloc]; omega
  have ba := ba.below bl
  have bv := bv.below bl
  have fv := fv.below bl
  have BB := bel_then BB bl
  clear bl
  rw [World.size_alloc] at vv
  clear fc
  obtain ⟨x0, x1, x2, x3, x4, x5, x6, x7⟩ := ba.cells
  go_wp2_with (go_at_call 18; refine (hT _ BB).mono ?_; rintro r w4 ⟨xx, rfl, fx, hb4⟩; refine Hid.out ?_)
  refine Lib.hid ?_
  have sw4 := hb4.size
  have ba := ba.below hb4
  have bv := bv.below hb4
  have fv := fv.below hb4
  have vv := vv.below hb4
  have BB := bel_then BB hb4
  clear hb4
  have bl : Below w4.heap.size w4 (w4.alloc (.cells #[.slice xx.A s.rows.length xx.a, .slice xx.R s.sp.refs.length xx.r, .slice xx.L s.sp.last.length xx.l, .int .i64 s.txg, .slice xx.G s.gone.length xx.g, .int .i64 s.keep, .slice xx.D s.dead.length xx.d, .bool s.same] 28)) := (Below.refl _ _).alloc (Nat.le_refl _) _
  have bx := B8.new w4 28 (.slice xx.A s.rows.length xx.a) (.slice xx.R s.sp.refs.length xx.r) (.slice xx.L s.sp.last.length xx.l) (.int .i64 s.txg) (.slice xx.G s.gone.length xx.g) (.int .i64 s.keep) (.slice xx.D s.dead.length xx.d) (.bool s.same)
  have saw4 : w4.heap.size < (w4.alloc (.cells #[.slice xx.A s.rows.length xx.a, .slice xx.R s.sp.refs.length xx.r, .slice xx.L s.sp.last.length xx.l, .int .i64 s.txg, .slice xx.G s.gone.length xx.g, .int .i64 s.keep, .slice xx.D s.dead.length xx.d, .bool s.same] 28)).heap.size := by rw [World.size_alloc]; exact Nat.lt_succ_self _
  have ba := ba.below bl
  have bv := bv.below bl
  have fv := fv.below bl
  have fx := fx.below bl
  have vv := vv.below bl
  have BB := bel_then BB bl
  clear bl
  clear x0 x1 x2 x3 x4 x5 x6 x7
  obtain ⟨x0, x1, x2, x3, x4, x5, x6, x7⟩ := bx.cells
  have L := hI xx (w4.alloc (.cells #[.slice xx.A s.rows.length xx.a, .slice xx.R s.sp.refs.length xx.r, .slice xx.L s.sp.last.length xx.l, .int .i64 s.txg, .slice xx.G s.gone.length xx.g, .int .i64 s.keep, .slice xx.D s.dead.length xx.d, .bool s.same] 28)) fx.at5
  go_wp2_with (go_at_call 24; refine (L).mono ?_; rintro r w5 ⟨xu, rfl, fu, hb5⟩; refine Hid.out ?_)
  refine Lib.hid ?_
  have sw5 := hb5.size
  have ba := ba.below hb5
  have bv := bv.below hb5
  have bx := bx.below hb5
  have fv := fv.below hb5
  have fx := fx.below hb5
  have vv := vv.below hb5
  have BB := bel_then BB hb5
  clear L hb5
  have bl : Below w5.heap.size w5 (w5.alloc (.cells #[.slice xu.A n.rows.length xu.a, .slice xu.R n.sp.refs.length xu.r, .slice xu.L n.sp.last.length xu.l, .int .i64 n.txg, .slice xu.G n.gone.length xu.g, .int .i64 n.keep, .slice xu.D n.dead.length xu.d, .bool n.same] 28)) := (Below.refl _ _).alloc (Nat.le_refl _) _
  have bu := B8.new w5 28 (.slice xu.A n.rows.length xu.a) (.slice xu.R n.sp.refs.length xu.r) (.slice xu.L n.sp.last.length xu.l) (.int .i64 n.txg) (.slice xu.G n.gone.length xu.g) (.int .i64 n.keep) (.slice xu.D n.dead.length xu.d) (.bool n.same)
  have saw5 : w5.heap.size < (w5.alloc (.cells #[.slice xu.A n.rows.length xu.a, .slice xu.R n.sp.refs.length xu.r, .slice xu.L n.sp.last.length xu.l, .int .i64 n.txg, .slice xu.G n.gone.length xu.g, .int .i64 n.keep, .slice xu.D n.dead.length xu.d, .bool n.same] 28)).heap.size := by rw [World.size_alloc]; exact Nat.lt_succ_self _
  have ba := ba.below bl
  have bv := bv.below bl
  have bx := bx.below bl
  have fv := fv.below bl
  have fx := fx.below bl
  have fu := fu.below bl
  have vv := vv.below bl
  have BB := bel_then BB bl
  clear bl
  have bl : Below (w5.alloc (.cells #[.slice xu.A n.rows.length xu.a, .slice xu.R n.sp.refs.length xu.r, .slice xu.L n.sp.last.length xu.l, .int .i64 n.txg, .slice xu.G n.gone.length xu.g, .int .i64 n.keep, .slice xu.D n.dead.length xu.d, .bool n.same] 28)).heap.size (w5.alloc (.cells #[.slice xu.A n.rows.length xu.a, .slice xu.R n.sp.refs.length xu.r, .slice xu.L n.sp.last.length xu.l, .int .i64 n.txg, .slice xu.G n.gone.length xu.g, .int .i64 n.keep, .slice xu.D n.dead.length xu.d, .bool n.same] 28)) ((w5.alloc (.cells #[.slice xu.A n.rows.length xu.a, .slice xu.R n.sp.refs.length xu.r, .slice xu.L n.sp.last.length xu.l, .int .i64 n.txg, .slice xu.G n.gone.length xu.g, .int .i64 n.keep, .slice xu.D n.dead.length xu.d, .bool n.same] 28)).alloc (.cells #[.int .i64 pa, .int .i64 pb, .int .i64 pc, .int .i64 pd, .int .i64 pe] 45)) := (Below.refl _ _).alloc (Nat.le_refl _) _
  have vu := V5.new (w5.alloc (.cells #[.slice xu.A n.rows.length xu.a, .slice xu.R n.sp.refs.length xu.r, .slice xu.L n.sp.last.length xu.l, .int .i64 n.txg, .slice xu.G n.gone.length xu.g, .int .i64 n.keep, .slice xu.D n.dead.length xu.d, .bool n.same] 28)) pa pb pc pd pe
  have sbw5 : (w5.alloc (.cells #[.slice xu.A n.rows.length xu.a, .slice xu.R n.sp.refs.length xu.r, .slice xu.L n.sp.last.length xu.l, .int .i64 n.txg, .slice xu.G n.gone.length xu.g, .int .i64 n.keep, .slice xu.D n.dead.length xu.d, .bool n.same] 28)).heap.size < ((w5.alloc (.cells #[.slice xu.A n.rows.length xu.a, .slice xu.R n.sp.refs.length xu.r, .slice xu.L n.sp.last.length xu.l, .int .i64 n.txg, .slice xu.G n.gone.length xu.g, .int .i64 n.keep, .slice xu.D n.dead.length xu.d, .bool n.same] 28)).alloc (.cells #[.int .i64 pa, .int .i64 pb, .int .i64 pc, .int .i64 pd, .int .i64 pe] 45)).heap.size := by simp only [World.size_alloc]; omega
  have ba := ba.below bl
  have bv := bv.below bl
  have bx := bx.below bl
  have bu := bu.below bl
  have fv := fv.below bl
  have fx := fx.below bl
  have fu := fu.below bl
  have vv := vv.below bl
  have BB := bel_then BB bl
  clear bl
  rw [World.size_alloc] at vu
  clear x0 x1 x2 x3 x4 x5 x6 x7
  have E := eq_store (w := ((w5.alloc (.cells #[.slice xu.A n.rows.length xu.a, .slice xu.R n.sp.refs.length xu.r, .slice xu.L n.sp.last.length xu.l, .int .i64 n.txg, .slice xu.G n.gone.length xu.g, .int .i64 n.keep, .slice xu.D n.dead.length xu.d, .bool n.same] 28)).alloc (.cells #[.int .i64 pa, .int .i64 pb, .int .i64 pc, .int .i64 pd, .int .i64 pe] 45))) hbn fu fv
  obtain ⟨x0, x1, x2, x3, x4, x5, x6, x7⟩ := bu.cells
  obtain ⟨y0, y1, y2, y3, y4, y5, y6, y7⟩ := bv.cells
  go_wp2_with (go_at_call 13; refine (E).mono ?_; rintro r w6 ⟨rfl, hb6⟩; refine Hid.out ?_)
  refine Lib.hid ?_
  have sw6 := hb6.size
  have ba := ba.below hb6
  have bv := bv.below hb6
  have bx := bx.below hb6
  have bu := bu.below hb6
  have fv := fv.below hb6
  have fx := fx.below hb6
  have fu := fu.below hb6
  have vv := vv.below hb6
  have vu := vu.below hb6
  have BB := bel_then BB hb6
  clear E hb6
  clear x0 x1 x2 x3 x4 x5 x6 x7
  clear y0 y1 y2 y3 y4 y5 y6 y7
  obtain ⟨p0, p1, p2, p3, p4⟩ := vu.cells
  obtain ⟨q0, q1, q2, q3, q4⟩ := vv.cells
  go_wp2_with (go_at_call 25; refine (hEP _).mono ?_; rintro r w7 ⟨rfl, hb7⟩; refine Hid.out ?_)
  refine Lib.hid ?_
  have sw7 := hb7.size
  have ba := ba.below hb7
  have bv := bv.below hb7
  have bx := bx.below hb7
  have bu := bu.below hb7
  have fv := fv.below hb7
  have fx := fx.below hb7
  have fu := fu.below hb7
  have vv := vv.below hb7
  have vu := vu.below hb7
  have BB := bel_then BB hb7
  clear hb7 p0 p1 p2 p3 p4 q0 q1 q2 q3 q4
  obtain ⟨x0, x1, x2, x3, x4, x5, x6, x7⟩ := bx.cells
  obtain ⟨y0, y1, y2, y3, y4, y5, y6, y7⟩ := ba.cells
  have hTd := hT w7.drew BB.drew
  have fd := fx.drew
  go_upto_region 12 with fail
  go_cut [67] (fun s wx => s = .bool false ∧ Below w7.heap.size w7 wx)
  case first =>
    first
      | go_region_with (first
        | (go_at_call 18; refine hTd.mono ?_; rintro r w8 ⟨xt, rfl, ft, hb8⟩; obtain ⟨x0, x1, x2, x3, x4, x5, x6, x7⟩ := (B8.below (W := w7.drew) bx hb8).cells; have E := eq_store (w := w8) hbk (fd.below hb8) ft)
        | (go_at_call 13; refine E.mono ?_; rintro r w9 ⟨rfl, hb9⟩))
      | fail "region"
    all_goals go_wp2_with fail
    all_goals go_meet
    all_goals exact ⟨rfl, bel_then (bel_then (Below.refl _ _).drew hb8) hb9⟩
  case rest =>
    obtain ⟨rfl, hb9⟩ := hcut
    obtain ⟨w9, ew9, hb9⟩ : ∃ W, W = _ ∧ Below w7.heap.size w7 W := ⟨_, rfl, hb9⟩
    subst ew9
    have sw9 := hb9.size
    have ba := ba.below hb9
    have bv := bv.below hb9
    have bx := bx.below hb9
    have bu := bu.below hb9
    have fv := fv.below hb9
    have fx := fx.below hb9
    have fu := fu.below hb9
    have vv := vv.below hb9
    have vu := vu.below hb9
    have BB := bel_then BB hb9
    clear hTd fd hb9
    clear x0 x1 x2 x3 x4 x5 x6 x7
    clear y0 y1 y2 y3 y4 y5 y6 y7
    obtain ⟨x0, x1, x2, x3, x4, x5, x6, x7⟩ := bx.cells
    have M := hM0 (by omega) fx
    clear fx
    go_wp2_with (go_at_call 14; refine (M).mono ?_; rintro r w10 ⟨rfl, fx, on⟩; refine Hid.out ?_)
    refine Lib.hid ?_
    have sw10 := on.size
    have BB := BB.trans (on.below (B := w.heap.size) (by omega) (by omega))
    have ba := ba.only on (by omega)
    have bv := bv.only on (by omega)
    have bx := bx.only on (by omega)
    have bu := bu.only on (by omega)
    have fv := fv.only on (by omega)
    have fu := fu.only on (by omega)
    have vv := vv.only on (by omega)
    have vu := vu.only on (by omega)
    clear M on fx
    clear x0 x1 x2 x3 x4 x5 x6 x7
    have E := eq_store (w := w10) hbn fu fv
    obtain ⟨x0, x1, x2, x3, x4, x5, x6, x7⟩ := bu.cells
    obtain ⟨y0, y1, y2, y3, y4, y5, y6, y7⟩ := bv.cells
    go_wp2_with (go_at_call 13; refine (E).mono ?_; rintro r w11 ⟨rfl, hb11⟩; refine Hid.out ?_)
    refine Lib.hid ?_
    have sw11 := hb11.size
    have ba := ba.below hb11
    have bv := bv.below hb11
    have bx := bx.below hb11
    have bu := bu.below hb11
    have fv := fv.below hb11
    have fu := fu.below hb11
    have vv := vv.below hb11
    have vu := vu.below hb11
    have BB := bel_then BB hb11
    clear E hb11
    clear x0 x1 x2 x3 x4 x5 x6 x7
    clear y0 y1 y2 y3 y4 y5 y6 y7
    obtain ⟨p0, p1, p2, p3, p4⟩ := vu.cells
    obtain ⟨q0, q1, q2, q3, q4⟩ := vv.cells
    go_wp2_with (go_at_call 25; refine (hEP _).mono ?_; rintro r w12 ⟨rfl, hb12⟩; refine Hid.out ?_)
    refine Lib.hid ?_
    have sw12 := hb12.size
    have ba := ba.below hb12
    have bv := bv.below hb12
    have bx := bx.below hb12
    have bu := bu.below hb12
    have fv := fv.below hb12
    have fu := fu.below hb12
    have vv := vv.below hb12
    have vu := vu.below hb12
    have BB := bel_then BB hb12
    clear hb12 p0 p1 p2 p3 p4 q0 q1 q2 q3 q4
    obtain ⟨x0, x1, x2, x3, x4, x5, x6, x7⟩ := bu.cells
    have M := hM (by omega) fu
    clear fu
    go_wp2_with (go_at_call 14; refine (M).mono ?_; rintro r w13 ⟨rfl, fu, on⟩; refine Hid.out ?_)
    refine Lib.hid ?_
    have sw13 := on.size
    have BB := BB.trans (on.below (B := w.heap.size) (by omega) (by omega))
    have ba := ba.only on (by omega)
    have bv := bv.only on (by omega)
    have bx := bx.only on (by omega)
    have bu := bu.only on (by omega)
    have fv := fv.only on (by omega)
    have vv := vv.only on (by omega)
    have vu := vu.only on (by omega)
    clear M on
    clear x0 x1 x2 x3 x4 x5 x6 x7
    obtain ⟨x0, x1, x2, x3, x4, x5, x6, x7⟩ := bu.cells
    have H := hH fu
    go_wp2_with (go_at_call 15; refine (H).mono ?_; rintro r w14 ⟨rfl, hb14⟩; refine Hid.out ?_)
    refine Lib.hid ?_
    have sw14 := hb14.size
    have ba := ba.below hb14
    have bv := bv.below hb14
    have bx := bx.below hb14
    have bu := bu.below hb14
    have fv := fv.below hb14
    have fu := fu.below hb14
    have vv := vv.below hb14
    have vu := vu.below hb14
    have BB := bel_then BB hb14
    clear H hb14
    clear x0 x1 x2 x3 x4 x5 x6 x7
    obtain ⟨x0, x1, x2, x3, x4, x5, x6, x7⟩ := ba.cells
    go_wp2_with (go_at_call 18; refine (hT _ BB).mono ?_; rintro r w15 ⟨xd, rfl, fd, hb15⟩; refine Hid.out ?_)
    refine Lib.hid ?_
    have sw15 := hb15.size
    have ba := ba.below hb15
    have bv := bv.below hb15
    have bx := bx.below hb15
    have bu := bu.below hb15
    have fv := fv.below hb15
    have fu := fu.below hb15
    have vv := vv.below hb15
    have vu := vu.below hb15
    have BB := bel_then BB hb15
    clear hb15
    clear x0 x1 x2 x3 x4 x5 x6 x7
    have L := hI xd w15 fd.at5
    go_wp2_with (go_at_call 24; refine (L).mono ?_; rintro r w16 ⟨xz, rfl, fz, hb16⟩; refine Hid.out ?_)
    refine Lib.hid ?_
    have sw16 := hb16.size
    have ba := ba.below hb16
    have bv := bv.below hb16
    have bx := bx.below hb16
    have bu := bu.below hb16
    have fv := fv.below hb16
    have fu := fu.below hb16
    have vv := vv.below hb16
    have vu := vu.below hb16
    have BB := bel_then BB hb16
    clear L hb16
    have bl : Below w16.heap.size w16 (w16.alloc (.cells #[.slice xz.A n.rows.length xz.a, .slice xz.R n.sp.refs.length xz.r, .slice xz.L n.sp.last.length xz.l, .int .i64 n.txg, .slice xz.G n.gone.length xz.g, .int .i64 n.keep, .slice xz.D n.dead.length xz.d, .bool n.same] 28)) := (Below.refl _ _).alloc (Nat.le_refl _) _
    have bz := B8.new w16 28 (.slice xz.A n.rows.length xz.a) (.slice xz.R n.sp.refs.length xz.r) (.slice xz.L n.sp.last.length xz.l) (.int .i64 n.txg) (.slice xz.G n.gone.length xz.g) (.int .i64 n.keep) (.slice xz.D n.dead.length xz.d) (.bool n.same)
    have saw16 : w16.heap.size < (w16.alloc (.cells #[.slice xz.A n.rows.length xz.a, .slice xz.R n.sp.refs.length xz.r, .slice xz.L n.sp.last.length xz.l, .int .i64 n.txg, .slice xz.G n.gone.length xz.g, .int .i64 n.keep, .slice xz.D n.dead.length xz.d, .bool n.same] 28)).heap.size := by rw [World.size_alloc]; exact Nat.lt_succ_self _
    have ba := ba.below bl
    have bv := bv.below bl
    have bx := bx.below bl
    have bu := bu.below bl
    have fv := fv.below bl
    have fu := fu.below bl
    have fz := fz.below bl
    have vv := vv.below bl
    have vu := vu.below bl
    have BB := bel_then BB bl
    clear bl
    have bl : Below (w16.alloc (.cells #[.slice xz.A n.rows.length xz.a, .slice xz.R n.sp.refs.length xz.r, .slice xz.L n.sp.last.length xz.l, .int .i64 n.txg, .slice xz.G n.gone.length xz.g, .int .i64 n.keep, .slice xz.D n.dead.length xz.d, .bool n.same] 28)).heap.size (w16.alloc (.cells #[.slice xz.A n.rows.length xz.a, .slice xz.R n.sp.refs.length xz.r, .slice xz.L n.sp.last.length xz.l, .int .i64 n.txg, .slice xz.G n.gone.length xz.g, .int .i64 n.keep, .slice xz.D n.dead.length xz.d, .bool n.same] 28)) ((w16.alloc (.cells #[.slice xz.A n.rows.length xz.a, .slice xz.R n.sp.refs.length xz.r, .slice xz.L n.sp.last.length xz.l, .int .i64 n.txg, .slice xz.G n.gone.length xz.g, .int .i64 n.keep, .slice xz.D n.dead.length xz.d, .bool n.same] 28)).alloc (.cells #[.int .i64 pa, .int .i64 pb, .int .i64 pc, .int .i64 pd, .int .i64 pe] 45)) := (Below.refl _ _).alloc (Nat.le_refl _) _
    have vz := V5.new (w16.alloc (.cells #[.slice xz.A n.rows.length xz.a, .slice xz.R n.sp.refs.length xz.r, .slice xz.L n.sp.last.length xz.l, .int .i64 n.txg, .slice xz.G n.gone.length xz.g, .int .i64 n.keep, .slice xz.D n.dead.length xz.d, .bool n.same] 28)) pa pb pc pd pe
    have sbw16 : (w16.alloc (.cells #[.slice xz.A n.rows.length xz.a, .slice xz.R n.sp.refs.length xz.r, .slice xz.L n.sp.last.length xz.l, .int .i64 n.txg, .slice xz.G n.gone.length xz.g, .int .i64 n.keep, .slice xz.D n.dead.length xz.d, .bool n.same] 28)).heap.size < ((w16.alloc (.cells #[.slice xz.A n.rows.length xz.a, .slice xz.R n.sp.refs.length xz.r, .slice xz.L n.sp.last.length xz.l, .int .i64 n.txg, .slice xz.G n.gone.length xz.g, .int .i64 n.keep, .slice xz.D n.dead.length xz.d, .bool n.same] 28)).alloc (.cells #[.int .i64 pa, .int .i64 pb, .int .i64 pc, .int .i64 pd, .int .i64 pe] 45)).heap.size := by simp only [World.size_alloc]; omega
    have ba := ba.below bl
    have bv := bv.below bl
    have bx := bx.below bl
    have bu := bu.below bl
    have bz := bz.below bl
    have fv := fv.below bl
    have fu := fu.below bl
    have fz := fz.below bl
    have vv := vv.below bl
    have vu := vu.below bl
    have BB := bel_then BB bl
    clear bl
    rw [World.size_alloc] at vz
    clear fd
    have E := eq_store (w := ((w16.alloc (.cells #[.slice xz.A n.rows.length xz.a, .slice xz.R n.sp.refs.length xz.r, .slice xz.L n.sp.last.length xz.l, .int .i64 n.txg, .slice xz.G n.gone.length xz.g, .int .i64 n.keep, .slice xz.D n.dead.length xz.d, .bool n.same] 28)).alloc (.cells #[.int .i64 pa, .int .i64 pb, .int .i64 pc, .int .i64 pd, .int .i64 pe] 45))) hbn fz fv
    obtain ⟨x0, x1, x2, x3, x4, x5, x6, x7⟩ := bz.cells
    obtain ⟨y0, y1, y2, y3, y4, y5, y6, y7⟩ := bv.cells
    go_wp2_with (go_at_call 13; refine (E).mono ?_; rintro r w17 ⟨rfl, hb17⟩; refine Hid.out ?_)
    refine Lib.hid ?_
    have sw17 := hb17.size
    have ba := ba.below hb17
    have bv := bv.below hb17
    have bx := bx.below hb17
    have bu := bu.below hb17
    have bz := bz.below hb17
    have fv := fv.below hb17
    have fu := fu.below hb17
    have fz := fz.below hb17
    have vv := vv.below hb17
    have vu := vu.below hb17
    have vz := vz.below hb17
    have BB := bel_then BB hb17
    clear E hb17
    clear x0 x1 x2 x3 x4 x5 x6 x7
    clear y0 y1 y2 y3 y4 y5 y6 y7
    obtain ⟨p0, p1, p2, p3, p4⟩ := vz.cells
    obtain ⟨q0, q1, q2, q3, q4⟩ := vv.cells
    go_wp2_with (go_at_call 25; refine (hEP _).mono ?_; rintro r w18 ⟨rfl, hb18⟩; refine Hid.out ?_)
    refine Lib.hid ?_
    have sw18 := hb18.size
    have ba := ba.below hb18
    have bv := bv.below hb18
    have bx := bx.below hb18
    have bu := bu.below hb18
    have bz := bz.below hb18
    have fv := fv.below hb18
    have fu := fu.below hb18
    have fz := fz.below hb18
    have vv := vv.below hb18
    have vu := vu.below hb18
    have vz := vz.below hb18
    have BB := bel_then BB hb18
    clear hb18 p0 p1 p2 p3 p4 q0 q1 q2 q3 q4
    obtain ⟨x0, x1, x2, x3, x4, x5, x6, x7⟩ := bu.cells
    have H := hH fu
    go_wp2_with (go_at_call 15; refine H.mono ?_; rintro r w19 ⟨rfl, hb19⟩)
    go_ret
    exact ⟨rfl, bel_then BB hb19⟩
end Go.Proofs.Ytmnamclndpfjnaa
