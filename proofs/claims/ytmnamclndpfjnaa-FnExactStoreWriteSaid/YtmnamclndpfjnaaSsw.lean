/-
  A block is written, as the specification does it in a store of the call's own.
  A block is written, as the specification does it.
-/
import Derived.Test.YtmnamclndpfjnaaWrn
import Derived.Test.YtmnamclndpfjnaaFnd
import Derived.Test.YtmnamclndpfjnaaLCp
import Derived.Test.YtmnamclndpfjnaaPOk

namespace Go.Proofs.Ytmnamclndpfjnaa
open Go.RowKit

section
variable {W : World} {P H base top : Nat} {u0 u1 u2 u3 u4 : Int} {L : List Rw}
theorem put5_ownW (h : Own W base top L) (hP : top ≤ P) : Own (((((W.setCell ⟨P, 0, none⟩ (.int .i64 u0)).setCell ⟨P, 1, none⟩ (.int .i64 u1)).setCell ⟨P, 2, none⟩ (.int .i64 u2)).setCell ⟨P, 3, none⟩ (.int .i64 u3)).setCell ⟨P, 4, none⟩ (.int .i64 u4)) base top L := ((((h.setA hP _).setA hP _).setA hP _).setA hP _).setA hP _
theorem set8_ownW {u0 u1 u2 u3 u4 u5 u6 u7 : Value} (h : Own W base top L) (hH : top ≤ H) : Own ((((((((W.setCell ⟨H, 0, none⟩ u0).setCell ⟨H, 1, none⟩ u1).setCell ⟨H, 2, none⟩ u2).setCell ⟨H, 3, none⟩ u3).setCell ⟨H, 4, none⟩ u4).setCell ⟨H, 5, none⟩ u5).setCell ⟨H, 6, none⟩ u6).setCell ⟨H, 7, none⟩ u7) base top L := (((((((h.setA hH _).setA hH _).setA hH _).setA hH _).setA hH _).setA hH _).setA hH _).setA hH _
end
def LwNo (Y : Value) (w : World) (e : Ending) (w' : World) : Prop := e = .returned (.tuple #[Y, .agg #[.int .i64 0, .int .i64 0, .int .i64 0, .int .i64 0, .int .i64 0], .bool false]) ∧ Below w.heap.size w w'
def LwYes (s : St) (n lv : Int) (t : ByteArray) (base : Nat) (w : World) (e : Ending) (w' : World) : Prop :=
  ∃ x : SA, e = .returned (.tuple #[(.agg #[.slice x.A s.rows.length x.a, .slice x.R s.sp.refs.length x.r, .slice x.L s.sp.last.length x.l, .int .i64 s.txg, .slice x.G s.gone.length x.g, .int .i64 s.keep, .slice x.D s.dead.length x.d, .bool s.same]), .agg #[.int .i64 n, .int .i64 s.txg, .int .i64 (t.size : Int), .int .i64 (sumT t.data.toList), .int .i64 lv], .bool true]) ∧ Own w' base w'.heap.size (rows5 x s) ∧ Below base w w'

set_option maxRecDepth 100000 in
set_option maxHeartbeats 8000000 in
theorem l7write_no (r p q ya yr yl yg yd base top : Nat) (yG yD : Option Addr) (s : St) (t : ByteArray) (lv : Int) (w : World) (hs : SBulk s) (hok : StOk s) (hO : Own w base top (rows5 (⟨some ⟨r, 0, none⟩, ya, some ⟨p, 0, none⟩, yr, some ⟨q, 0, none⟩, yl, yG, yg, yD, yd⟩ : SA) s)) (hrw : rowW s t lv = -1) :
    Calls Try.prog 60 #[(.agg #[.slice (some ⟨r, 0, none⟩) s.rows.length ya, .slice (some ⟨p, 0, none⟩) s.sp.refs.length yr, .slice (some ⟨q, 0, none⟩) s.sp.last.length yl, .int .i64 s.txg, .slice yG s.gone.length yg, .int .i64 s.keep, .slice yD s.dead.length yd, .bool s.same]), .string t, .int .i64 lv] w (LwNo (.agg #[.slice (some ⟨r, 0, none⟩) s.rows.length ya, .slice (some ⟨p, 0, none⟩) s.sp.refs.length yr, .slice (some ⟨q, 0, none⟩) s.sp.last.length yl, .int .i64 s.txg, .slice yG s.gone.length yg, .int .i64 s.keep, .slice yD s.dead.length yd, .bool s.same]) w) := by
  have a0 := ((B8.new w 28 (.slice (some ⟨r, 0, none⟩) s.rows.length ya) (.slice (some ⟨p, 0, none⟩) s.sp.refs.length yr) (.slice (some ⟨q, 0, none⟩) s.sp.last.length yl) (.int .i64 s.txg) (.slice yG s.gone.length yg) (.int .i64 s.keep) (.slice yD s.dead.length yd) (.bool s.same)).alloc (.cells #[.slice none 0 0, .slice none 0 0, .slice none 0 0, .int .i64 0, .slice none 0 0, .int .i64 0, .slice none 0 0, .bool false] 28)).alloc (.cells #[.int .i64 0, .int .i64 0, .int .i64 0, .int .i64 0, .int .i64 0] 45)
  have c0 := (B8.new (w.alloc (.cells #[.slice (some ⟨r, 0, none⟩) s.rows.length ya, .slice (some ⟨p, 0, none⟩) s.sp.refs.length yr, .slice (some ⟨q, 0, none⟩) s.sp.last.length yl, .int .i64 s.txg, .slice yG s.gone.length yg, .int .i64 s.keep, .slice yD s.dead.length yd, .bool s.same] 28)) 28 (.slice none 0 0) (.slice none 0 0) (.slice none 0 0) (.int .i64 0) (.slice none 0 0) (.int .i64 0) (.slice none 0 0) (.bool false)).alloc (.cells #[.int .i64 0, .int .i64 0, .int .i64 0, .int .i64 0, .int .i64 0] 45)
  have p0 := V5.new ((w.alloc (.cells #[.slice (some ⟨r, 0, none⟩) s.rows.length ya, .slice (some ⟨p, 0, none⟩) s.sp.refs.length yr, .slice (some ⟨q, 0, none⟩) s.sp.last.length yl, .int .i64 s.txg, .slice yG s.gone.length yg, .int .i64 s.keep, .slice yD s.dead.length yd, .bool s.same] 28)).alloc (.cells #[.slice none 0 0, .slice none 0 0, .slice none 0 0, .int .i64 0, .slice none 0 0, .int .i64 0, .slice none 0 0, .bool false] 28)) 0 0 0 0 0
  rw [World.size_alloc] at c0
  rw [World.size_alloc, World.size_alloc] at p0
  have B0 := bel_new (bel_new (bel_new (Below.refl w.heap.size w) (.cells #[.slice (some ⟨r, 0, none⟩) s.rows.length ya, .slice (some ⟨p, 0, none⟩) s.sp.refs.length yr, .slice (some ⟨q, 0, none⟩) s.sp.last.length yl, .int .i64 s.txg, .slice yG s.gone.length yg, .int .i64 s.keep, .slice yD s.dead.length yd, .bool s.same] 28)) (.cells #[.slice none 0 0, .slice none 0 0, .slice none 0 0, .int .i64 0, .slice none 0 0, .int .i64 0, .slice none 0 0, .bool false] 28)) (.cells #[.int .i64 0, .int .i64 0, .int .i64 0, .int .i64 0, .int .i64 0] 45)
  have sz : (((w.alloc (.cells #[.slice (some ⟨r, 0, none⟩) s.rows.length ya, .slice (some ⟨p, 0, none⟩) s.sp.refs.length yr, .slice (some ⟨q, 0, none⟩) s.sp.last.length yl, .int .i64 s.txg, .slice yG s.gone.length yg, .int .i64 s.keep, .slice yD s.dead.length yd, .bool s.same] 28)).alloc (.cells #[.slice none 0 0, .slice none 0 0, .slice none 0 0, .int .i64 0, .slice none 0 0, .int .i64 0, .slice none 0 0, .bool false] 28)).alloc (.cells #[.int .i64 0, .int .i64 0, .int .i64 0, .int .i64 0, .int .i64 0] 45)).heap.size = w.heap.size + 1 + 1 + 1 := by rw [World.size_alloc, World.size_alloc, World.size_alloc]
  have B0 : Below w.heap.size w (((w.alloc (.cells #[.slice (some ⟨r, 0, none⟩) s.rows.length ya, .slice (some ⟨p, 0, none⟩) s.sp.refs.length yr, .slice (some ⟨q, 0, none⟩) s.sp.last.length yl, .int .i64 s.txg, .slice yG s.gone.length yg, .int .i64 s.keep, .slice yD s.dead.length yd, .bool s.same] 28)).alloc (.cells #[.slice none 0 0, .slice none 0 0, .slice none 0 0, .int .i64 0, .slice none 0 0, .int .i64 0, .slice none 0 0, .bool false] 28)).alloc (.cells #[.int .i64 0, .int .i64 0, .int .i64 0, .int .i64 0, .int .i64 0] 45)) := B0
  have O0 := hO.below B0
  have hbw : base ≤ w.heap.size := by have := (hO.row 0 (by decide : 0 < 5)).lt r rfl; omega
  have hAt := hO.at5
  have hLk := fun W (hW : Below w.heap.size w W) => spec_l7like (⟨some ⟨r, 0, none⟩, ya, some ⟨p, 0, none⟩, yr, some ⟨q, 0, none⟩, yl, yG, yg, yD, yd⟩ : SA) s t W hok hs.texts (hAt.below hW)
  have hF := fun (C : Option Addr) W (hW : Below w.heap.size w W) => spec_l5find (some ⟨p, 0, none⟩) (some ⟨q, 0, none⟩) C yr yl 0 s.sp 8 [] W hok.sp (by simp) (hAt.sp.below hW) (Lies.nil _ _)
  have hff : seek (usOf s.sp) [] (fromOf 8) 0 56 = findA s := rfl
  simp only [hff, List.length_nil] at hF
  have hrg := like_range s t 56 8
  obtain ⟨k, hk⟩ : ∃ k, k = likeK s t 8 56 := ⟨_, rfl⟩
  have hno : s.same = true → lv = 0 → k = -1 := fun h1 h2 => by
    rcases hrg with h | ⟨j, h, h8, _⟩
    · rw [hk, h]
    · rw [row_like h1 h2 (by omega), h] at hrw; omega
  have hfd : findA s = -1 := by
    rw [row_find (fun h => by have := hno h.1 h.2.1; rw [← hk] at h; omega)] at hrw
    exact hrw
  simp only [← hk, hfd] at hLk hF
  clear hs hok hO hAt hrg hff hrw hfd hk
  cases hsm : s.same with
  | false =>
    rw [hsm] at a0 B0 sz O0 hLk c0 p0
    clear hno hsm
    go_enter Try.func60, Try.ntmps60
    go_upto_region 2 with fail
    obtain ⟨W0, hW0⟩ : ∃ W, W = (((w.alloc (.cells #[.slice (some ⟨r, 0, none⟩) s.rows.length ya, .slice (some ⟨p, 0, none⟩) s.sp.refs.length yr, .slice (some ⟨q, 0, none⟩) s.sp.last.length yl, .int .i64 s.txg, .slice yG s.gone.length yg, .int .i64 s.keep, .slice yD s.dead.length yd, .bool false] 28)).alloc (.cells #[.slice none 0 0, .slice none 0 0, .slice none 0 0, .int .i64 0, .slice none 0 0, .int .i64 0, .slice none 0 0, .bool false] 28)).alloc (.cells #[.int .i64 0, .int .i64 0, .int .i64 0, .int .i64 0, .int .i64 0] 45)) := ⟨_, rfl⟩
    rw [← hW0] at a0 p0 c0 O0 B0 sz ⊢
    clear hW0
    have s0 := Nat.le_of_eq sz.symm
    clear sz
    obtain ⟨x0, x1, x2, x3, x4, x5, x6, x7⟩ := a0.cells
    have hb8 : Below W0.heap.size W0 (W0.alloc (.cells #[] 3)) := (Below.refl _ _).alloc (Nat.le_refl _) _
    have L := hF (some ⟨W0.heap.size, 0, none⟩) (W0.alloc (.cells #[] 3)) (bel_then B0 hb8)
    go_wp2_with (go_at_call 94; refine L.mono ?_; rintro r9 w9 ⟨rfl, hb9⟩; refine Hid.out ?_)
    refine Lib.hid ?_
    clear x0 x1 x2 x3 x4 x5 x6 x7
    have a7 := a0.below hb8
    have p7 := p0.below hb8
    have c7 := c0.below hb8
    have O7 := O0.below hb8
    have B7 := bel_then B0 hb8
    have s7 := Nat.le_trans s0 hb8.size
    have a9 := a7.below hb9
    have p9 := p7.below hb9
    have c9 := c7.below hb9
    have O9 := O7.below hb9
    have B9 := bel_then B7 hb9
    have s9 := Nat.le_trans s7 hb9.size
    obtain ⟨z0, z1, z2, z3, z4, z5, z6, z7⟩ := c9.cells
    obtain ⟨f0, f1, f2, f3, f4, f5, f6, f7⟩ := c9.fro
    obtain ⟨v0, v1, v2, v3, v4⟩ := p9.cells
    obtain ⟨g0, g1, g2, g3, g4⟩ := p9.fro
    obtain ⟨x0, x1, x2, x3, x4, x5, x6, x7⟩ := a9.cells
    go_wp2_with fail
    clear z0 z1 z2 z3 z4 z5 z6 z7 f0 f1 f2 f3 f4 f5 f6 f7 v0 v1 v2 v3 v4 g0 g1 g2 g3 g4
    clear x0 x1 x2 x3 x4 x5 x6 x7
    have QC := (put5_far (P := w.heap.size + 1 + 1) (u0 := 0) (u1 := 0) (u2 := 0) (u3 := 0) (u4 := 0) (set8_box (H := w.heap.size + 1) (u0 := .slice (some ⟨r, 0, none⟩) s.rows.length ya) (u1 := .slice (some ⟨p, 0, none⟩) s.sp.refs.length yr) (u2 := .slice (some ⟨q, 0, none⟩) s.sp.last.length yl) (u3 := .int .i64 s.txg) (u4 := .slice yG s.gone.length yg) (u5 := .int .i64 s.keep) (u6 := .slice yD s.dead.length yd) (u7 := .bool false) c9) (by omega)).cells
    have QP := (V5.put (u0 := 0) (u1 := 0) (u2 := 0) (u3 := 0) (u4 := 0) (v5_far8 (H := w.heap.size + 1) (u0 := .slice (some ⟨r, 0, none⟩) s.rows.length ya) (u1 := .slice (some ⟨p, 0, none⟩) s.sp.refs.length yr) (u2 := .slice (some ⟨q, 0, none⟩) s.sp.last.length yl) (u3 := .int .i64 s.txg) (u4 := .slice yG s.gone.length yg) (u5 := .int .i64 s.keep) (u6 := .slice yD s.dead.length yd) (u7 := .bool false) p9 (by omega))).cells
    have BE := (put5_bel (P := w.heap.size + 1 + 1) (u0 := 0) (u1 := 0) (u2 := 0) (u3 := 0) (u4 := 0) (set8_bel (H := w.heap.size + 1) (u0 := .slice (some ⟨r, 0, none⟩) s.rows.length ya) (u1 := .slice (some ⟨p, 0, none⟩) s.sp.refs.length yr) (u2 := .slice (some ⟨q, 0, none⟩) s.sp.last.length yl) (u3 := .int .i64 s.txg) (u4 := .slice yG s.gone.length yg) (u5 := .int .i64 s.keep) (u6 := .slice yD s.dead.length yd) (u7 := .bool false) B9 (by omega)) (by omega))
    change bodyPost Try.prog Try.f60 _ Exit.ret _ ((((((((((((((w9.setCell ⟨w.heap.size + 1, 0, none⟩ (.slice (some ⟨r, 0, none⟩) s.rows.length ya)).setCell ⟨w.heap.size + 1, 1, none⟩ (.slice (some ⟨p, 0, none⟩) s.sp.refs.length yr)).setCell ⟨w.heap.size + 1, 2, none⟩ (.slice (some ⟨q, 0, none⟩) s.sp.last.length yl)).setCell ⟨w.heap.size + 1, 3, none⟩ (.int .i64 s.txg)).setCell ⟨w.heap.size + 1, 4, none⟩ (.slice yG s.gone.length yg)).setCell ⟨w.heap.size + 1, 5, none⟩ (.int .i64 s.keep)).setCell ⟨w.heap.size + 1, 6, none⟩ (.slice yD s.dead.length yd)).setCell ⟨w.heap.size + 1, 7, none⟩ (.bool false)).setCell ⟨w.heap.size + 1 + 1, 0, none⟩ (.int .i64 0)).setCell ⟨w.heap.size + 1 + 1, 1, none⟩ (.int .i64 0)).setCell ⟨w.heap.size + 1 + 1, 2, none⟩ (.int .i64 0)).setCell ⟨w.heap.size + 1 + 1, 3, none⟩ (.int .i64 0)).setCell ⟨w.heap.size + 1 + 1, 4, none⟩ (.int .i64 0)))
    generalize (((((((((((((w9.setCell ⟨w.heap.size + 1, 0, none⟩ (.slice (some ⟨r, 0, none⟩) s.rows.length ya)).setCell ⟨w.heap.size + 1, 1, none⟩ (.slice (some ⟨p, 0, none⟩) s.sp.refs.length yr)).setCell ⟨w.heap.size + 1, 2, none⟩ (.slice (some ⟨q, 0, none⟩) s.sp.last.length yl)).setCell ⟨w.heap.size + 1, 3, none⟩ (.int .i64 s.txg)).setCell ⟨w.heap.size + 1, 4, none⟩ (.slice yG s.gone.length yg)).setCell ⟨w.heap.size + 1, 5, none⟩ (.int .i64 s.keep)).setCell ⟨w.heap.size + 1, 6, none⟩ (.slice yD s.dead.length yd)).setCell ⟨w.heap.size + 1, 7, none⟩ (.bool false)).setCell ⟨w.heap.size + 1 + 1, 0, none⟩ (.int .i64 0)).setCell ⟨w.heap.size + 1 + 1, 1, none⟩ (.int .i64 0)).setCell ⟨w.heap.size + 1 + 1, 2, none⟩ (.int .i64 0)).setCell ⟨w.heap.size + 1 + 1, 3, none⟩ (.int .i64 0)).setCell ⟨w.heap.size + 1 + 1, 4, none⟩ (.int .i64 0)) = WF at QC QP BE ⊢
    obtain ⟨q0, q1, q2, q3, q4, q5, q6, q7⟩ := QC
    obtain ⟨r0, r1, r2, r3, r4⟩ := QP
    exact bodyPost_ret (v := .tuple #[.agg #[.slice (some ⟨r, 0, none⟩) s.rows.length ya, .slice (some ⟨p, 0, none⟩) s.sp.refs.length yr, .slice (some ⟨q, 0, none⟩) s.sp.last.length yl, .int .i64 s.txg, .slice yG s.gone.length yg, .int .i64 s.keep, .slice yD s.dead.length yd, .bool false], .agg #[.int .i64 0, .int .i64 0, .int .i64 0, .int .i64 0, .int .i64 0], .bool false]) (by simp [results, Try.f60, go_sem, q0, q1, q2, q3, q4, q5, q6, q7, r0, r1, r2, r3, r4]) rfl ⟨rfl, BE⟩
  | true =>
    rw [hsm] at a0 B0 sz O0 hLk c0 p0
    by_cases hlv : lv = 0
    · have hl0 : (lv == 0) = true := by simpa using hlv
      have hk1 := hno hsm hlv
      simp only [hk1] at hLk
      clear hno hsm hlv hk1
      go_enter Try.func60, Try.ntmps60
      go_upto_region 2 with fail
      obtain ⟨W0, hW0⟩ : ∃ W, W = (((w.alloc (.cells #[.slice (some ⟨r, 0, none⟩) s.rows.length ya, .slice (some ⟨p, 0, none⟩) s.sp.refs.length yr, .slice (some ⟨q, 0, none⟩) s.sp.last.length yl, .int .i64 s.txg, .slice yG s.gone.length yg, .int .i64 s.keep, .slice yD s.dead.length yd, .bool true] 28)).alloc (.cells #[.slice none 0 0, .slice none 0 0, .slice none 0 0, .int .i64 0, .slice none 0 0, .int .i64 0, .slice none 0 0, .bool false] 28)).alloc (.cells #[.int .i64 0, .int .i64 0, .int .i64 0, .int .i64 0, .int .i64 0] 45)) := ⟨_, rfl⟩
      rw [← hW0] at a0 p0 c0 O0 B0 sz ⊢
      clear hW0
      have s0 := Nat.le_of_eq sz.symm
      clear sz
      obtain ⟨x0, x1, x2, x3, x4, x5, x6, x7⟩ := a0.cells
      go_wp2_with (go_at_call 93; refine (hLk W0 B0).mono ?_; rintro r9 w1 ⟨rfl, hb1⟩; refine Hid.out ?_)
      refine Lib.hid ?_
      clear x0 x1 x2 x3 x4 x5 x6 x7
      have a1 := a0.below hb1
      have p1 := p0.below hb1
      have c1 := c0.below hb1
      have O1 := O0.below hb1
      have B1 := bel_then B0 hb1
      have s1 := Nat.le_trans s0 hb1.size
      obtain ⟨x0, x1, x2, x3, x4, x5, x6, x7⟩ := a1.cells
      have hb8 : Below w1.heap.size w1 (w1.alloc (.cells #[] 3)) := (Below.refl _ _).alloc (Nat.le_refl _) _
      have L := hF (some ⟨w1.heap.size, 0, none⟩) (w1.alloc (.cells #[] 3)) (bel_then B1 hb8)
      go_wp2_with (go_at_call 94; refine L.mono ?_; rintro r9 w9 ⟨rfl, hb9⟩; refine Hid.out ?_)
      refine Lib.hid ?_
      clear x0 x1 x2 x3 x4 x5 x6 x7
      have a7 := a1.below hb8
      have p7 := p1.below hb8
      have c7 := c1.below hb8
      have O7 := O1.below hb8
      have B7 := bel_then B1 hb8
      have s7 := Nat.le_trans s1 hb8.size
      have a9 := a7.below hb9
      have p9 := p7.below hb9
      have c9 := c7.below hb9
      have O9 := O7.below hb9
      have B9 := bel_then B7 hb9
      have s9 := Nat.le_trans s7 hb9.size
      obtain ⟨z0, z1, z2, z3, z4, z5, z6, z7⟩ := c9.cells
      obtain ⟨f0, f1, f2, f3, f4, f5, f6, f7⟩ := c9.fro
      obtain ⟨v0, v1, v2, v3, v4⟩ := p9.cells
      obtain ⟨g0, g1, g2, g3, g4⟩ := p9.fro
      obtain ⟨x0, x1, x2, x3, x4, x5, x6, x7⟩ := a9.cells
      go_wp2_with fail
      clear z0 z1 z2 z3 z4 z5 z6 z7 f0 f1 f2 f3 f4 f5 f6 f7 v0 v1 v2 v3 v4 g0 g1 g2 g3 g4
      clear x0 x1 x2 x3 x4 x5 x6 x7
      have QC := (put5_far (P := w.heap.size + 1 + 1) (u0 := 0) (u1 := 0) (u2 := 0) (u3 := 0) (u4 := 0) (set8_box (H := w.heap.size + 1) (u0 := .slice (some ⟨r, 0, none⟩) s.rows.length ya) (u1 := .slice (some ⟨p, 0, none⟩) s.sp.refs.length yr) (u2 := .slice (some ⟨q, 0, none⟩) s.sp.last.length yl) (u3 := .int .i64 s.txg) (u4 := .slice yG s.gone.length yg) (u5 := .int .i64 s.keep) (u6 := .slice yD s.dead.length yd) (u7 := .bool true) c9) (by omega)).cells
      have QP := (V5.put (u0 := 0) (u1 := 0) (u2 := 0) (u3 := 0) (u4 := 0) (v5_far8 (H := w.heap.size + 1) (u0 := .slice (some ⟨r, 0, none⟩) s.rows.length ya) (u1 := .slice (some ⟨p, 0, none⟩) s.sp.refs.length yr) (u2 := .slice (some ⟨q, 0, none⟩) s.sp.last.length yl) (u3 := .int .i64 s.txg) (u4 := .slice yG s.gone.length yg) (u5 := .int .i64 s.keep) (u6 := .slice yD s.dead.length yd) (u7 := .bool true) p9 (by omega))).cells
      have BE := (put5_bel (P := w.heap.size + 1 + 1) (u0 := 0) (u1 := 0) (u2 := 0) (u3 := 0) (u4 := 0) (set8_bel (H := w.heap.size + 1) (u0 := .slice (some ⟨r, 0, none⟩) s.rows.length ya) (u1 := .slice (some ⟨p, 0, none⟩) s.sp.refs.length yr) (u2 := .slice (some ⟨q, 0, none⟩) s.sp.last.length yl) (u3 := .int .i64 s.txg) (u4 := .slice yG s.gone.length yg) (u5 := .int .i64 s.keep) (u6 := .slice yD s.dead.length yd) (u7 := .bool true) B9 (by omega)) (by omega))
      change bodyPost Try.prog Try.f60 _ Exit.ret _ ((((((((((((((w9.setCell ⟨w.heap.size + 1, 0, none⟩ (.slice (some ⟨r, 0, none⟩) s.rows.length ya)).setCell ⟨w.heap.size + 1, 1, none⟩ (.slice (some ⟨p, 0, none⟩) s.sp.refs.length yr)).setCell ⟨w.heap.size + 1, 2, none⟩ (.slice (some ⟨q, 0, none⟩) s.sp.last.length yl)).setCell ⟨w.heap.size + 1, 3, none⟩ (.int .i64 s.txg)).setCell ⟨w.heap.size + 1, 4, none⟩ (.slice yG s.gone.length yg)).setCell ⟨w.heap.size + 1, 5, none⟩ (.int .i64 s.keep)).setCell ⟨w.heap.size + 1, 6, none⟩ (.slice yD s.dead.length yd)).setCell ⟨w.heap.size + 1, 7, none⟩ (.bool true)).setCell ⟨w.heap.size + 1 + 1, 0, none⟩ (.int .i64 0)).setCell ⟨w.heap.size + 1 + 1, 1, none⟩ (.int .i64 0)).setCell ⟨w.heap.size + 1 + 1, 2, none⟩ (.int .i64 0)).setCell ⟨w.heap.size + 1 + 1, 3, none⟩ (.int .i64 0)).setCell ⟨w.heap.size + 1 + 1, 4, none⟩ (.int .i64 0)))
      generalize (((((((((((((w9.setCell ⟨w.heap.size + 1, 0, none⟩ (.slice (some ⟨r, 0, none⟩) s.rows.length ya)).setCell ⟨w.heap.size + 1, 1, none⟩ (.slice (some ⟨p, 0, none⟩) s.sp.refs.length yr)).setCell ⟨w.heap.size + 1, 2, none⟩ (.slice (some ⟨q, 0, none⟩) s.sp.last.length yl)).setCell ⟨w.heap.size + 1, 3, none⟩ (.int .i64 s.txg)).setCell ⟨w.heap.size + 1, 4, none⟩ (.slice yG s.gone.length yg)).setCell ⟨w.heap.size + 1, 5, none⟩ (.int .i64 s.keep)).setCell ⟨w.heap.size + 1, 6, none⟩ (.slice yD s.dead.length yd)).setCell ⟨w.heap.size + 1, 7, none⟩ (.bool true)).setCell ⟨w.heap.size + 1 + 1, 0, none⟩ (.int .i64 0)).setCell ⟨w.heap.size + 1 + 1, 1, none⟩ (.int .i64 0)).setCell ⟨w.heap.size + 1 + 1, 2, none⟩ (.int .i64 0)).setCell ⟨w.heap.size + 1 + 1, 3, none⟩ (.int .i64 0)).setCell ⟨w.heap.size + 1 + 1, 4, none⟩ (.int .i64 0)) = WF at QC QP BE ⊢
      obtain ⟨q0, q1, q2, q3, q4, q5, q6, q7⟩ := QC
      obtain ⟨r0, r1, r2, r3, r4⟩ := QP
      exact bodyPost_ret (v := .tuple #[.agg #[.slice (some ⟨r, 0, none⟩) s.rows.length ya, .slice (some ⟨p, 0, none⟩) s.sp.refs.length yr, .slice (some ⟨q, 0, none⟩) s.sp.last.length yl, .int .i64 s.txg, .slice yG s.gone.length yg, .int .i64 s.keep, .slice yD s.dead.length yd, .bool true], .agg #[.int .i64 0, .int .i64 0, .int .i64 0, .int .i64 0, .int .i64 0], .bool false]) (by simp [results, Try.f60, go_sem, q0, q1, q2, q3, q4, q5, q6, q7, r0, r1, r2, r3, r4]) rfl ⟨rfl, BE⟩
    · have hl0 : (lv == 0) = false := by simpa using hlv
      clear hno hsm hlv
      go_enter Try.func60, Try.ntmps60
      go_upto_region 2 with fail
      obtain ⟨W0, hW0⟩ : ∃ W, W = (((w.alloc (.cells #[.slice (some ⟨r, 0, none⟩) s.rows.length ya, .slice (some ⟨p, 0, none⟩) s.sp.refs.length yr, .slice (some ⟨q, 0, none⟩) s.sp.last.length yl, .int .i64 s.txg, .slice yG s.gone.length yg, .int .i64 s.keep, .slice yD s.dead.length yd, .bool true] 28)).alloc (.cells #[.slice none 0 0, .slice none 0 0, .slice none 0 0, .int .i64 0, .slice none 0 0, .int .i64 0, .slice none 0 0, .bool false] 28)).alloc (.cells #[.int .i64 0, .int .i64 0, .int .i64 0, .int .i64 0, .int .i64 0] 45)) := ⟨_, rfl⟩
      rw [← hW0] at a0 p0 c0 O0 B0 sz ⊢
      clear hW0
      have s0 := Nat.le_of_eq sz.symm
      clear sz
      obtain ⟨x0, x1, x2, x3, x4, x5, x6, x7⟩ := a0.cells
      have hb8 : Below W0.heap.size W0 (W0.alloc (.cells #[] 3)) := (Below.refl _ _).alloc (Nat.le_refl _) _
      have L := hF (some ⟨W0.heap.size, 0, none⟩) (W0.alloc (.cells #[] 3)) (bel_then B0 hb8)
      go_wp2_with (go_at_call 94; refine L.mono ?_; rintro r9 w9 ⟨rfl, hb9⟩; refine Hid.out ?_)
      refine Lib.hid ?_
      clear x0 x1 x2 x3 x4 x5 x6 x7
      have a7 := a0.below hb8
      have p7 := p0.below hb8
      have c7 := c0.below hb8
      have O7 := O0.below hb8
      have B7 := bel_then B0 hb8
      have s7 := Nat.le_trans s0 hb8.size
      have a9 := a7.below hb9
      have p9 := p7.below hb9
      have c9 := c7.below hb9
      have O9 := O7.below hb9
      have B9 := bel_then B7 hb9
      have s9 := Nat.le_trans s7 hb9.size
      obtain ⟨z0, z1, z2, z3, z4, z5, z6, z7⟩ := c9.cells
      obtain ⟨f0, f1, f2, f3, f4, f5, f6, f7⟩ := c9.fro
      obtain ⟨v0, v1, v2, v3, v4⟩ := p9.cells
      obtain ⟨g0, g1, g2, g3, g4⟩ := p9.fro
      obtain ⟨x0, x1, x2, x3, x4, x5, x6, x7⟩ := a9.cells
      go_wp2_with fail
      clear z0 z1 z2 z3 z4 z5 z6 z7 f0 f1 f2 f3 f4 f5 f6 f7 v0 v1 v2 v3 v4 g0 g1 g2 g3 g4
      clear x0 x1 x2 x3 x4 x5 x6 x7
      have QC := (put5_far (P := w.heap.size + 1 + 1) (u0 := 0) (u1 := 0) (u2 := 0) (u3 := 0) (u4 := 0) (set8_box (H := w.heap.size + 1) (u0 := .slice (some ⟨r, 0, none⟩) s.rows.length ya) (u1 := .slice (some ⟨p, 0, none⟩) s.sp.refs.length yr) (u2 := .slice (some ⟨q, 0, none⟩) s.sp.last.length yl) (u3 := .int .i64 s.txg) (u4 := .slice yG s.gone.length yg) (u5 := .int .i64 s.keep) (u6 := .slice yD s.dead.length yd) (u7 := .bool true) c9) (by omega)).cells
      have QP := (V5.put (u0 := 0) (u1 := 0) (u2 := 0) (u3 := 0) (u4 := 0) (v5_far8 (H := w.heap.size + 1) (u0 := .slice (some ⟨r, 0, none⟩) s.rows.length ya) (u1 := .slice (some ⟨p, 0, none⟩) s.sp.refs.length yr) (u2 := .slice (some ⟨q, 0, none⟩) s.sp.last.length yl) (u3 := .int .i64 s.txg) (u4 := .slice yG s.gone.length yg) (u5 := .int .i64 s.keep) (u6 := .slice yD s.dead.length yd) (u7 := .bool true) p9 (by omega))).cells
      have BE := (put5_bel (P := w.heap.size + 1 + 1) (u0 := 0) (u1 := 0) (u2 := 0) (u3 := 0) (u4 := 0) (set8_bel (H := w.heap.size + 1) (u0 := .slice (some ⟨r, 0, none⟩) s.rows.length ya) (u1 := .slice (some ⟨p, 0, none⟩) s.sp.refs.length yr) (u2 := .slice (some ⟨q, 0, none⟩) s.sp.last.length yl) (u3 := .int .i64 s.txg) (u4 := .slice yG s.gone.length yg) (u5 := .int .i64 s.keep) (u6 := .slice yD s.dead.length yd) (u7 := .bool true) B9 (by omega)) (by omega))
      change bodyPost Try.prog Try.f60 _ Exit.ret _ ((((((((((((((w9.setCell ⟨w.heap.size + 1, 0, none⟩ (.slice (some ⟨r, 0, none⟩) s.rows.length ya)).setCell ⟨w.heap.size + 1, 1, none⟩ (.slice (some ⟨p, 0, none⟩) s.sp.refs.length yr)).setCell ⟨w.heap.size + 1, 2, none⟩ (.slice (some ⟨q, 0, none⟩) s.sp.last.length yl)).setCell ⟨w.heap.size + 1, 3, none⟩ (.int .i64 s.txg)).setCell ⟨w.heap.size + 1, 4, none⟩ (.slice yG s.gone.length yg)).setCell ⟨w.heap.size + 1, 5, none⟩ (.int .i64 s.keep)).setCell ⟨w.heap.size + 1, 6, none⟩ (.slice yD s.dead.length yd)).setCell ⟨w.heap.size + 1, 7, none⟩ (.bool true)).setCell ⟨w.heap.size + 1 + 1, 0, none⟩ (.int .i64 0)).setCell ⟨w.heap.size + 1 + 1, 1, none⟩ (.int .i64 0)).setCell ⟨w.heap.size + 1 + 1, 2, none⟩ (.int .i64 0)).setCell ⟨w.heap.size + 1 + 1, 3, none⟩ (.int .i64 0)).setCell ⟨w.heap.size + 1 + 1, 4, none⟩ (.int .i64 0)))
      generalize (((((((((((((w9.setCell ⟨w.heap.size + 1, 0, none⟩ (.slice (some ⟨r, 0, none⟩) s.rows.length ya)).setCell ⟨w.heap.size + 1, 1, none⟩ (.slice (some ⟨p, 0, none⟩) s.sp.refs.length yr)).setCell ⟨w.heap.size + 1, 2, none⟩ (.slice (some ⟨q, 0, none⟩) s.sp.last.length yl)).setCell ⟨w.heap.size + 1, 3, none⟩ (.int .i64 s.txg)).setCell ⟨w.heap.size + 1, 4, none⟩ (.slice yG s.gone.length yg)).setCell ⟨w.heap.size + 1, 5, none⟩ (.int .i64 s.keep)).setCell ⟨w.heap.size + 1, 6, none⟩ (.slice yD s.dead.length yd)).setCell ⟨w.heap.size + 1, 7, none⟩ (.bool true)).setCell ⟨w.heap.size + 1 + 1, 0, none⟩ (.int .i64 0)).setCell ⟨w.heap.size + 1 + 1, 1, none⟩ (.int .i64 0)).setCell ⟨w.heap.size + 1 + 1, 2, none⟩ (.int .i64 0)).setCell ⟨w.heap.size + 1 + 1, 3, none⟩ (.int .i64 0)).setCell ⟨w.heap.size + 1 + 1, 4, none⟩ (.int .i64 0)) = WF at QC QP BE ⊢
      obtain ⟨q0, q1, q2, q3, q4, q5, q6, q7⟩ := QC
      obtain ⟨r0, r1, r2, r3, r4⟩ := QP
      exact bodyPost_ret (v := .tuple #[.agg #[.slice (some ⟨r, 0, none⟩) s.rows.length ya, .slice (some ⟨p, 0, none⟩) s.sp.refs.length yr, .slice (some ⟨q, 0, none⟩) s.sp.last.length yl, .int .i64 s.txg, .slice yG s.gone.length yg, .int .i64 s.keep, .slice yD s.dead.length yd, .bool true], .agg #[.int .i64 0, .int .i64 0, .int .i64 0, .int .i64 0, .int .i64 0], .bool false]) (by simp [results, Try.f60, go_sem, q0, q1, q2, q3, q4, q5, q6, q7, r0, r1, r2, r3, r4]) rfl ⟨rfl, BE⟩

set_option maxRecDepth 100000 in
set_option maxHeartbeats 8000000 in
theorem l7write_yes (r p q ya yr yl yg yd base top : Nat) (yG yD : Option Addr) (s : St) (t : ByteArray) (lv : Int) (w : World) (hs : SBulk s) (hok : StOk s) (hb : blockB t) (hl : 0 ≤ lv ∧ lv ≤ 2) (htop : top ≤ w.heap.size) (hO : Own w base top (rows5 (⟨some ⟨r, 0, none⟩, ya, some ⟨p, 0, none⟩, yr, some ⟨q, 0, none⟩, yl, yG, yg, yD, yd⟩ : SA) s)) (n : Nat) (h8 : 8 ≤ n) (h64 : n < 64) (hrw : rowW s t lv = (n : Int)) :
    Calls Try.prog 60 #[(.agg #[.slice (some ⟨r, 0, none⟩) s.rows.length ya, .slice (some ⟨p, 0, none⟩) s.sp.refs.length yr, .slice (some ⟨q, 0, none⟩) s.sp.last.length yl, .int .i64 s.txg, .slice yG s.gone.length yg, .int .i64 s.keep, .slice yD s.dead.length yd, .bool s.same]), .string t, .int .i64 lv] w (LwYes (putSt s n t) (n : Int) lv t base w) := by
  have a0 := ((B8.new w 28 (.slice (some ⟨r, 0, none⟩) s.rows.length ya) (.slice (some ⟨p, 0, none⟩) s.sp.refs.length yr) (.slice (some ⟨q, 0, none⟩) s.sp.last.length yl) (.int .i64 s.txg) (.slice yG s.gone.length yg) (.int .i64 s.keep) (.slice yD s.dead.length yd) (.bool s.same)).alloc (.cells #[.slice none 0 0, .slice none 0 0, .slice none 0 0, .int .i64 0, .slice none 0 0, .int .i64 0, .slice none 0 0, .bool false] 28)).alloc (.cells #[.int .i64 0, .int .i64 0, .int .i64 0, .int .i64 0, .int .i64 0] 45)
  have c0 := (B8.new (w.alloc (.cells #[.slice (some ⟨r, 0, none⟩) s.rows.length ya, .slice (some ⟨p, 0, none⟩) s.sp.refs.length yr, .slice (some ⟨q, 0, none⟩) s.sp.last.length yl, .int .i64 s.txg, .slice yG s.gone.length yg, .int .i64 s.keep, .slice yD s.dead.length yd, .bool s.same] 28)) 28 (.slice none 0 0) (.slice none 0 0) (.slice none 0 0) (.int .i64 0) (.slice none 0 0) (.int .i64 0) (.slice none 0 0) (.bool false)).alloc (.cells #[.int .i64 0, .int .i64 0, .int .i64 0, .int .i64 0, .int .i64 0] 45)
  have p0 := V5.new ((w.alloc (.cells #[.slice (some ⟨r, 0, none⟩) s.rows.length ya, .slice (some ⟨p, 0, none⟩) s.sp.refs.length yr, .slice (some ⟨q, 0, none⟩) s.sp.last.length yl, .int .i64 s.txg, .slice yG s.gone.length yg, .int .i64 s.keep, .slice yD s.dead.length yd, .bool s.same] 28)).alloc (.cells #[.slice none 0 0, .slice none 0 0, .slice none 0 0, .int .i64 0, .slice none 0 0, .int .i64 0, .slice none 0 0, .bool false] 28)) 0 0 0 0 0
  rw [World.size_alloc] at c0
  rw [World.size_alloc, World.size_alloc] at p0
  have B0 := bel_new (bel_new (bel_new (Below.refl w.heap.size w) (.cells #[.slice (some ⟨r, 0, none⟩) s.rows.length ya, .slice (some ⟨p, 0, none⟩) s.sp.refs.length yr, .slice (some ⟨q, 0, none⟩) s.sp.last.length yl, .int .i64 s.txg, .slice yG s.gone.length yg, .int .i64 s.keep, .slice yD s.dead.length yd, .bool s.same] 28)) (.cells #[.slice none 0 0, .slice none 0 0, .slice none 0 0, .int .i64 0, .slice none 0 0, .int .i64 0, .slice none 0 0, .bool false] 28)) (.cells #[.int .i64 0, .int .i64 0, .int .i64 0, .int .i64 0, .int .i64 0] 45)
  have sz : (((w.alloc (.cells #[.slice (some ⟨r, 0, none⟩) s.rows.length ya, .slice (some ⟨p, 0, none⟩) s.sp.refs.length yr, .slice (some ⟨q, 0, none⟩) s.sp.last.length yl, .int .i64 s.txg, .slice yG s.gone.length yg, .int .i64 s.keep, .slice yD s.dead.length yd, .bool s.same] 28)).alloc (.cells #[.slice none 0 0, .slice none 0 0, .slice none 0 0, .int .i64 0, .slice none 0 0, .int .i64 0, .slice none 0 0, .bool false] 28)).alloc (.cells #[.int .i64 0, .int .i64 0, .int .i64 0, .int .i64 0, .int .i64 0] 45)).heap.size = w.heap.size + 1 + 1 + 1 := by rw [World.size_alloc, World.size_alloc, World.size_alloc]
  have B0 : Below w.heap.size w (((w.alloc (.cells #[.slice (some ⟨r, 0, none⟩) s.rows.length ya, .slice (some ⟨p, 0, none⟩) s.sp.refs.length yr, .slice (some ⟨q, 0, none⟩) s.sp.last.length yl, .int .i64 s.txg, .slice yG s.gone.length yg, .int .i64 s.keep, .slice yD s.dead.length yd, .bool s.same] 28)).alloc (.cells #[.slice none 0 0, .slice none 0 0, .slice none 0 0, .int .i64 0, .slice none 0 0, .int .i64 0, .slice none 0 0, .bool false] 28)).alloc (.cells #[.int .i64 0, .int .i64 0, .int .i64 0, .int .i64 0, .int .i64 0] 45)) := B0
  have O0 := hO.below B0
  have hbw : base ≤ w.heap.size := by have := (hO.row 0 (by decide : 0 < 5)).lt r rfl; omega
  have hAt := hO.at5
  have hLk := fun W (hW : Below w.heap.size w W) => spec_l7like (⟨some ⟨r, 0, none⟩, ya, some ⟨p, 0, none⟩, yr, some ⟨q, 0, none⟩, yl, yG, yg, yD, yd⟩ : SA) s t W hok hs.texts (hAt.below hW)
  have hF := fun (C : Option Addr) W (hW : Below w.heap.size w W) => spec_l5find (some ⟨p, 0, none⟩) (some ⟨q, 0, none⟩) C yr yl 0 s.sp 8 [] W hok.sp (by simp) (hAt.sp.below hW) (Lies.nil _ _)
  have hff : seek (usOf s.sp) [] (fromOf 8) 0 56 = findA s := rfl
  simp only [hff, List.length_nil] at hF
  have hrg := like_range s t 56 8

  have hP := fun W => spec_ptrof (n : Int) s.txg lv t W ⟨by omega, by omega⟩ hok.txg hl hb
  have L1 : s.rows.length = 64 := hok.len
  have L2 : s.sp.refs.length = 64 := hok.sp.1
  have L3 : s.sp.last.length = 64 := hok.sp.2.1
  have hn1 : (n : Int) < (s.rows.length : Int) := by rw [L1]; omega
  have hn2 : (n : Int) < (s.sp.refs.length : Int) := by rw [L2]; omega
  have hn3 : (n : Int) < (s.sp.last.length : Int) := by rw [L3]; omega
  have hnl : n < s.rows.length := by omega
  have hnr : n < s.sp.refs.length := by omega
  have hnq : n < s.sp.last.length := by omega
  have hn0 : ¬ ((n : Int) < 0) := by omega
  have hu9 := hok.ref_bd n h64
  have hgu : s.sp.refs.getD n 0 = s.sp.refs[n] := by rw [List.getD_eq_getElem?_getD, List.getElem?_eq_getElem hnr, Option.getD_some]

  unfold LwYes
  generalize sumT t.data.toList = z at hP ⊢
  obtain ⟨k, hk⟩ : ∃ k, k = likeK s t 8 56 := ⟨_, rfl⟩
  have hkk : k = -1 ∨ 0 ≤ k := by
    rcases hrg with h | ⟨j, h, _⟩
    · exact .inl (hk.trans h)
    · exact .inr (by omega)
  have hyes : s.same = true → lv = 0 → 0 ≤ k → k = (n : Int) := fun h1 h2 h3 => by rw [hk, ← row_like h1 h2 (by omega)]; exact hrw
  have hno : ¬ (s.same = true ∧ lv = 0 ∧ 0 ≤ k) → findA s = (n : Int) := fun h => by rw [← row_find (s := s) (t := t) (lv := lv) (by rw [← hk]; exact h)]; exact hrw
  simp only [← hk] at hLk
  have HL := Lib.hid (⟨L1, L2, L3⟩ : _ ∧ _ ∧ _)
  have HG := Lib.hid hgu
  clear hs hok hb hl hO hAt hrg hff hrw hk L1 L2 L3 hgu
  cases hsm : s.same with
  | false =>
    have HSM := Lib.hid hsm
    rw [hsm] at a0 B0 sz O0 hLk c0 p0
    have hfd := hno (fun h => by rw [hsm] at h; cases h.1)
    simp only [hfd] at hF
    clear hyes hno hsm hkk hfd
    go_enter Try.func60, Try.ntmps60
    go_upto_region 2 with fail
    obtain ⟨W0, hW0⟩ : ∃ W, W = (((w.alloc (.cells #[.slice (some ⟨r, 0, none⟩) s.rows.length ya, .slice (some ⟨p, 0, none⟩) s.sp.refs.length yr, .slice (some ⟨q, 0, none⟩) s.sp.last.length yl, .int .i64 s.txg, .slice yG s.gone.length yg, .int .i64 s.keep, .slice yD s.dead.length yd, .bool false] 28)).alloc (.cells #[.slice none 0 0, .slice none 0 0, .slice none 0 0, .int .i64 0, .slice none 0 0, .int .i64 0, .slice none 0 0, .bool false] 28)).alloc (.cells #[.int .i64 0, .int .i64 0, .int .i64 0, .int .i64 0, .int .i64 0] 45)) := ⟨_, rfl⟩
    rw [← hW0] at a0 p0 c0 O0 B0 sz ⊢
    clear hW0
    have s0 := Nat.le_of_eq sz.symm
    clear sz
    obtain ⟨x0, x1, x2, x3, x4, x5, x6, x7⟩ := a0.cells
    have hb8 : Below W0.heap.size W0 (W0.alloc (.cells #[] 3)) := (Below.refl _ _).alloc (Nat.le_refl _) _
    have L := hF (some ⟨W0.heap.size, 0, none⟩) (W0.alloc (.cells #[] 3)) (bel_then B0 hb8)
    go_wp2_with (go_at_call 94; refine L.mono ?_; rintro r9 w9 ⟨rfl, hb9⟩; refine Hid.out ?_)
    refine Lib.hid ?_
    clear x0 x1 x2 x3 x4 x5 x6 x7
    have a7 := a0.below hb8
    have p7 := p0.below hb8
    have c7 := c0.below hb8
    have O7 := O0.below hb8
    have B7 := bel_then B0 hb8
    have s7 := Nat.le_trans s0 hb8.size
    have a9 := a7.below hb9
    have p9 := p7.below hb9
    have c9 := c7.below hb9
    have O9 := O7.below hb9
    have B9 := bel_then B7 hb9
    have s9 := Nat.le_trans s7 hb9.size
    obtain ⟨x0, x1, x2, x3, x4, x5, x6, x7⟩ := a9.cells
    have L := hP w9
    go_wp2_with (go_at_call 95; refine L.mono ?_; rintro r9 w10 ⟨rfl, hb10⟩; refine Hid.out ?_)
    refine Lib.hid ?_
    clear x0 x1 x2 x3 x4 x5 x6 x7
    have a10 := a9.below hb10
    have p10 := p9.below hb10
    have c10 := c9.below hb10
    have O10 := O9.below hb10
    have B10 := bel_then B9 hb10
    have s10 := Nat.le_trans s9 hb10.size
    have s11 := hb10.size
    clear L hP
    have hrow := O10.row 0 (by decide : 0 < 5)
    have fr := hrow.frozenAt n
    have cr := hrow.cellAt n (by show n < s.rows.length * 1; omega)
    simp only [rows5, List.getElem_cons_zero] at cr
    rw [strCells_at _ n hnl] at cr
    have st := (hrow.stored n (.string t)).1
    have hrt : r < top := (O10.1 _ (List.getElem_mem (by decide : 0 < 5))).2 r rfl
    have hpt : p < top := (O10.1 _ (List.getElem_mem (by decide : 1 < 5))).2 p rfl
    have hqt : q < top := (O10.1 _ (List.getElem_mem (by decide : 2 < 5))).2 q rfl
    have hrb : base ≤ r := (hrow.lt r rfl).1
    have hpb : base ≤ p := ((O10.row 1 (by decide : 1 < 5)).lt p rfl).1
    have hqb : base ≤ q := ((O10.row 2 (by decide : 2 < 5)).lt q rfl).1
    have hm1 : r < w10.heap.size := by omega
    have hm2 : w.heap.size < w10.heap.size := by omega
    have hm3 : w.heap.size + 1 < w10.heap.size := by omega
    have hm4 : w.heap.size + 1 + 1 < w10.heap.size := by omega
    obtain ⟨x0, x1, x2, x3, x4, x5, x6, x7⟩ := a10.cells
    go_upto_region 12 with fail
    have O11 := (O10.put 0 (by decide : 0 < 5) (r := ⟨9, 1, (s.rows.set n t).length, .slice (some ⟨r, 0, none⟩) (s.rows.set n t).length ya, strCells (s.rows.set n t)⟩) rfl (grown_set _ ⟨r, n, none⟩ (.string t)) (by simp only [rows5, List.getElem_cons_zero] at st; simp only [List.length_set]; rw [← strSet]; exact st)).alloc (.cells #[.int .i64 (n : Int), .int .i64 s.txg, .int .i64 (t.size : Int), .int .i64 z, .int .i64 lv] 45)
    have q11 : V5 ((w10.setCell ⟨r, n, none⟩ (.string t)).alloc (.cells #[.int .i64 (n : Int), .int .i64 s.txg, .int .i64 (t.size : Int), .int .i64 z, .int .i64 lv] 45)) w10.heap.size (n : Int) s.txg (t.size : Int) z lv := by
      have := V5.new (w10.setCell ⟨r, n, none⟩ (.string t)) (n : Int) s.txg (t.size : Int) z lv
      rwa [size_set] at this
    have a11 := (a10.set (p := ⟨r, n, none⟩) (by show w.heap.size ≠ r; omega) (.string t)).alloc (.cells #[.int .i64 (n : Int), .int .i64 s.txg, .int .i64 (t.size : Int), .int .i64 z, .int .i64 lv] 45)
    have c11 := (c10.set (p := ⟨r, n, none⟩) (by show w.heap.size + 1 ≠ r; omega) (.string t)).alloc (.cells #[.int .i64 (n : Int), .int .i64 s.txg, .int .i64 (t.size : Int), .int .i64 z, .int .i64 lv] 45)
    have p11 := (p10.set (p := ⟨r, n, none⟩) (by show w.heap.size + 1 + 1 ≠ r; omega) (.string t)).alloc (.cells #[.int .i64 (n : Int), .int .i64 s.txg, .int .i64 (t.size : Int), .int .i64 z, .int .i64 lv] 45)
    have B11 := ((B10.mono hbw).setCell (p := ⟨r, n, none⟩) hrb (.string t)).alloc (by rw [size_set]; omega) (.cells #[.int .i64 (n : Int), .int .i64 s.txg, .int .i64 (t.size : Int), .int .i64 z, .int .i64 lv] 45)
    have s13 : ((w10.setCell ⟨r, n, none⟩ (.string t)).alloc (.cells #[.int .i64 (n : Int), .int .i64 s.txg, .int .i64 (t.size : Int), .int .i64 z, .int .i64 lv] 45)).heap.size = w10.heap.size + 1 := by rw [World.size_alloc, size_set]
    generalize (w10.setCell ⟨r, n, none⟩ (.string t)).alloc (.cells #[.int .i64 (n : Int), .int .i64 s.txg, .int .i64 (t.size : Int), .int .i64 z, .int .i64 lv] 45) = W11 at O11 q11 a11 c11 p11 B11 s13 ⊢
    clear a10 c10 p10 B10 O10 hrow fr cr st x0 x1 x2 x3 x4 x5 x6 x7
    have hrow1 : W11.ownsRow base 3 1 (.slice (some ⟨p, 0, none⟩) s.sp.refs.length yr) s.sp.refs.length (intCells s.sp.refs) := O11.row 1 (by decide : 1 < 5)
    have fr1 := hrow1.frozenAt n
    have cr1 := hrow1.cellAt n (by show n < s.sp.refs.length * 1; omega)
    rw [intCells_at _ n hnr] at cr1
    have st1 := (hrow1.stored n (.int .i64 (s.sp.refs[n] + 1))).1
    rw [intCells_set] at st1
    have hu1 := HG.out
    rw [hu1] at hu9
    obtain ⟨u, hu⟩ : ∃ u, u = s.sp.refs[n] := ⟨_, rfl⟩
    rw [← hu] at cr1 st1 hu9 hu1
    have HU := Lib.hid hu1
    clear hu hu1 hrow1
    obtain ⟨x0, x1, x2, x3, x4, x5, x6, x7⟩ := a11.cells
    go_region
    go_upto_region 13 with fail
    have O12 := (O11.put 1 (by decide : 1 < 5) (r := ⟨3, 1, (s.sp.refs.set n (u + 1)).length, .slice (some ⟨p, 0, none⟩) (s.sp.refs.set n (u + 1)).length yr, intCells (s.sp.refs.set n (u + 1))⟩) rfl (grown_set _ ⟨p, n, none⟩ (.int .i64 (u + 1))) (by simp only [List.length_set]; exact st1)).drew
    have q12 := (q11.set (p := ⟨p, n, none⟩) (by show w10.heap.size ≠ p; omega) (.int .i64 (u + 1))).drew
    have a12 := (a11.set (p := ⟨p, n, none⟩) (by show w.heap.size ≠ p; omega) (.int .i64 (u + 1))).drew
    have c12 := (c11.set (p := ⟨p, n, none⟩) (by show w.heap.size + 1 ≠ p; omega) (.int .i64 (u + 1))).drew
    have p12 := (p11.set (p := ⟨p, n, none⟩) (by show w.heap.size + 1 + 1 ≠ p; omega) (.int .i64 (u + 1))).drew
    have B12 := (B11.setCell (p := ⟨p, n, none⟩) hpb (.int .i64 (u + 1))).drew
    generalize (W11.setCell ⟨p, n, none⟩ (.int .i64 (u + 1))).drew = W12 at O12 q12 a12 c12 p12 B12 ⊢
    clear O11 q11 a11 c11 p11 B11 st1 fr1 cr1 x0 x1 x2 x3 x4 x5 x6 x7
    have hrow2 : W12.ownsRow base 3 1 (.slice (some ⟨q, 0, none⟩) s.sp.last.length yl) s.sp.last.length (intCells s.sp.last) := O12.row 2 (by decide : 2 < 5)
    have fr2 := hrow2.frozenAt n
    have cr2 := hrow2.cellAt n (by show n < s.sp.last.length * 1; omega)
    rw [intCells_at _ n hnq] at cr2
    have st2 := (hrow2.stored n (.int .i64 s.txg)).1
    rw [intCells_set] at st2
    clear hrow2
    obtain ⟨x0, x1, x2, x3, x4, x5, x6, x7⟩ := a12.cells
    go_upto_region 14 with fail
    have O13 := O12.put 2 (by decide : 2 < 5) (r := ⟨3, 1, (s.sp.last.set n s.txg).length, .slice (some ⟨q, 0, none⟩) (s.sp.last.set n s.txg).length yl, intCells (s.sp.last.set n s.txg)⟩) rfl (grown_set _ ⟨q, n, none⟩ (.int .i64 s.txg)) (by simp only [List.length_set]; exact st2)
    have q13 := q12.set (p := ⟨q, n, none⟩) (by show w10.heap.size ≠ q; omega) (.int .i64 s.txg)
    have a13 := a12.set (p := ⟨q, n, none⟩) (by show w.heap.size ≠ q; omega) (.int .i64 s.txg)
    have c13 := c12.set (p := ⟨q, n, none⟩) (by show w.heap.size + 1 ≠ q; omega) (.int .i64 s.txg)
    have p13 := p12.set (p := ⟨q, n, none⟩) (by show w.heap.size + 1 + 1 ≠ q; omega) (.int .i64 s.txg)
    have B13 := B12.setCell (p := ⟨q, n, none⟩) hqb (.int .i64 s.txg)
    generalize W12.setCell ⟨q, n, none⟩ (.int .i64 s.txg) = W13 at O13 q13 a13 c13 p13 B13 ⊢
    clear O12 q12 a12 c12 p12 B12 st2 fr2 cr2 x0 x1 x2 x3 x4 x5 x6 x7
    have hput : putSt s n t = { s with rows := s.rows.set n t, sp := ⟨s.sp.refs.set n (u + 1), s.sp.last.set n s.txg⟩ } := by unfold putSt; rw [HU.out]
    have HPU := Lib.hid hput
    clear hput
    obtain ⟨x0, x1, x2, x3, x4, x5, x6, x7⟩ := a13.cells
    obtain ⟨k0, k1, k2, k3, k4⟩ := q13.cells
    obtain ⟨z0, z1, z2, z3, z4, z5, z6, z7⟩ := c13.cells
    obtain ⟨f0, f1, f2, f3, f4, f5, f6, f7⟩ := c13.fro
    obtain ⟨v0, v1, v2, v3, v4⟩ := p13.cells
    obtain ⟨g0, g1, g2, g3, g4⟩ := p13.fro
    go_region
    all_goals go_wp2_with fail
    all_goals (
      clear z0 z1 z2 z3 z4 z5 z6 z7 f0 f1 f2 f3 f4 f5 f6 f7 v0 v1 v2 v3 v4 g0 g1 g2 g3 g4
      have OG := (put5_ownW (P := w.heap.size + 1 + 1) (u0 := (n : Int)) (u1 := s.txg) (u2 := (t.size : Int)) (u3 := z) (u4 := lv) (set8_ownW (H := w.heap.size + 1) (u0 := .slice (some ⟨r, 0, none⟩) s.rows.length ya) (u1 := .slice (some ⟨p, 0, none⟩) s.sp.refs.length yr) (u2 := .slice (some ⟨q, 0, none⟩) s.sp.last.length yl) (u3 := .int .i64 s.txg) (u4 := .slice yG s.gone.length yg) (u5 := .int .i64 s.keep) (u6 := .slice yD s.dead.length yd) (u7 := .bool false) O13 (by omega)) (by omega)).at_top.base (base' := base) (by omega)
      have OG := own_drew_top OG
      have QC := (put5_far (P := w.heap.size + 1 + 1) (u0 := (n : Int)) (u1 := s.txg) (u2 := (t.size : Int)) (u3 := z) (u4 := lv) (set8_box (H := w.heap.size + 1) (u0 := .slice (some ⟨r, 0, none⟩) s.rows.length ya) (u1 := .slice (some ⟨p, 0, none⟩) s.sp.refs.length yr) (u2 := .slice (some ⟨q, 0, none⟩) s.sp.last.length yl) (u3 := .int .i64 s.txg) (u4 := .slice yG s.gone.length yg) (u5 := .int .i64 s.keep) (u6 := .slice yD s.dead.length yd) (u7 := .bool false) c13) (by omega)).drew.cells
      have QP := (V5.put (u0 := (n : Int)) (u1 := s.txg) (u2 := (t.size : Int)) (u3 := z) (u4 := lv) (v5_far8 (H := w.heap.size + 1) (u0 := .slice (some ⟨r, 0, none⟩) s.rows.length ya) (u1 := .slice (some ⟨p, 0, none⟩) s.sp.refs.length yr) (u2 := .slice (some ⟨q, 0, none⟩) s.sp.last.length yl) (u3 := .int .i64 s.txg) (u4 := .slice yG s.gone.length yg) (u5 := .int .i64 s.keep) (u6 := .slice yD s.dead.length yd) (u7 := .bool false) p13 (by omega))).drew.cells
      have BE := (put5_bel (P := w.heap.size + 1 + 1) (u0 := (n : Int)) (u1 := s.txg) (u2 := (t.size : Int)) (u3 := z) (u4 := lv) (set8_bel (H := w.heap.size + 1) (u0 := .slice (some ⟨r, 0, none⟩) s.rows.length ya) (u1 := .slice (some ⟨p, 0, none⟩) s.sp.refs.length yr) (u2 := .slice (some ⟨q, 0, none⟩) s.sp.last.length yl) (u3 := .int .i64 s.txg) (u4 := .slice yG s.gone.length yg) (u5 := .int .i64 s.keep) (u6 := .slice yD s.dead.length yd) (u7 := .bool false) B13 (by omega)) (by omega)).drew
      change bodyPost Try.prog Try.f60 _ Exit.ret _ (((((((((((((((W13.setCell ⟨w.heap.size + 1, 0, none⟩ (.slice (some ⟨r, 0, none⟩) s.rows.length ya)).setCell ⟨w.heap.size + 1, 1, none⟩ (.slice (some ⟨p, 0, none⟩) s.sp.refs.length yr)).setCell ⟨w.heap.size + 1, 2, none⟩ (.slice (some ⟨q, 0, none⟩) s.sp.last.length yl)).setCell ⟨w.heap.size + 1, 3, none⟩ (.int .i64 s.txg)).setCell ⟨w.heap.size + 1, 4, none⟩ (.slice yG s.gone.length yg)).setCell ⟨w.heap.size + 1, 5, none⟩ (.int .i64 s.keep)).setCell ⟨w.heap.size + 1, 6, none⟩ (.slice yD s.dead.length yd)).setCell ⟨w.heap.size + 1, 7, none⟩ (.bool false)).setCell ⟨w.heap.size + 1 + 1, 0, none⟩ (.int .i64 (n : Int))).setCell ⟨w.heap.size + 1 + 1, 1, none⟩ (.int .i64 s.txg)).setCell ⟨w.heap.size + 1 + 1, 2, none⟩ (.int .i64 (t.size : Int))).setCell ⟨w.heap.size + 1 + 1, 3, none⟩ (.int .i64 z)).setCell ⟨w.heap.size + 1 + 1, 4, none⟩ (.int .i64 lv))).drew)
      generalize ((((((((((((((W13.setCell ⟨w.heap.size + 1, 0, none⟩ (.slice (some ⟨r, 0, none⟩) s.rows.length ya)).setCell ⟨w.heap.size + 1, 1, none⟩ (.slice (some ⟨p, 0, none⟩) s.sp.refs.length yr)).setCell ⟨w.heap.size + 1, 2, none⟩ (.slice (some ⟨q, 0, none⟩) s.sp.last.length yl)).setCell ⟨w.heap.size + 1, 3, none⟩ (.int .i64 s.txg)).setCell ⟨w.heap.size + 1, 4, none⟩ (.slice yG s.gone.length yg)).setCell ⟨w.heap.size + 1, 5, none⟩ (.int .i64 s.keep)).setCell ⟨w.heap.size + 1, 6, none⟩ (.slice yD s.dead.length yd)).setCell ⟨w.heap.size + 1, 7, none⟩ (.bool false)).setCell ⟨w.heap.size + 1 + 1, 0, none⟩ (.int .i64 (n : Int))).setCell ⟨w.heap.size + 1 + 1, 1, none⟩ (.int .i64 s.txg)).setCell ⟨w.heap.size + 1 + 1, 2, none⟩ (.int .i64 (t.size : Int))).setCell ⟨w.heap.size + 1 + 1, 3, none⟩ (.int .i64 z)).setCell ⟨w.heap.size + 1 + 1, 4, none⟩ (.int .i64 lv))).drew = WF at OG QC QP BE ⊢
      obtain ⟨q0, q1, q2, q3, q4, q5, q6, q7⟩ := QC
      obtain ⟨r0, r1, r2, r3, r4⟩ := QP
      exact bodyPost_ret (v := .tuple #[.agg #[.slice (some ⟨r, 0, none⟩) s.rows.length ya, .slice (some ⟨p, 0, none⟩) s.sp.refs.length yr, .slice (some ⟨q, 0, none⟩) s.sp.last.length yl, .int .i64 s.txg, .slice yG s.gone.length yg, .int .i64 s.keep, .slice yD s.dead.length yd, .bool false], .agg #[.int .i64 (n : Int), .int .i64 s.txg, .int .i64 (t.size : Int), .int .i64 z, .int .i64 lv], .bool true]) (by simp [results, Try.f60, go_sem, q0, q1, q2, q3, q4, q5, q6, q7, r0, r1, r2, r3, r4]) rfl ⟨(⟨some ⟨r, 0, none⟩, ya, some ⟨p, 0, none⟩, yr, some ⟨q, 0, none⟩, yl, yG, yg, yD, yd⟩ : SA), by rw [HPU.out]; simp only [List.length_set, HSM.out], by rw [HPU.out]; exact OG, BE⟩)
  | true =>
    have HSM := Lib.hid hsm
    rw [hsm] at a0 B0 sz O0 hLk c0 p0
    by_cases hlv : lv = 0
    · have hl0 : (lv == 0) = true := by simpa using hlv
      rcases hkk with hk1 | hk1
      · have hfd := hno (fun h => by omega)
        simp only [hfd] at hF
        simp only [hk1] at hLk
        clear hyes hno hsm hlv hk1 hfd
        go_enter Try.func60, Try.ntmps60
        go_upto_region 2 with fail
        obtain ⟨W0, hW0⟩ : ∃ W, W = (((w.alloc (.cells #[.slice (some ⟨r, 0, none⟩) s.rows.length ya, .slice (some ⟨p, 0, none⟩) s.sp.refs.length yr, .slice (some ⟨q, 0, none⟩) s.sp.last.length yl, .int .i64 s.txg, .slice yG s.gone.length yg, .int .i64 s.keep, .slice yD s.dead.length yd, .bool true] 28)).alloc (.cells #[.slice none 0 0, .slice none 0 0, .slice none 0 0, .int .i64 0, .slice none 0 0, .int .i64 0, .slice none 0 0, .bool false] 28)).alloc (.cells #[.int .i64 0, .int .i64 0, .int .i64 0, .int .i64 0, .int .i64 0] 45)) := ⟨_, rfl⟩
        rw [← hW0] at a0 p0 c0 O0 B0 sz ⊢
        clear hW0
        have s0 := Nat.le_of_eq sz.symm
        clear sz
        obtain ⟨x0, x1, x2, x3, x4, x5, x6, x7⟩ := a0.cells
        go_wp2_with (go_at_call 93; refine (hLk W0 B0).mono ?_; rintro r9 w1 ⟨rfl, hb1⟩; refine Hid.out ?_)
        refine Lib.hid ?_
        clear x0 x1 x2 x3 x4 x5 x6 x7
        have a1 := a0.below hb1
        have p1 := p0.below hb1
        have c1 := c0.below hb1
        have O1 := O0.below hb1
        have B1 := bel_then B0 hb1
        have s1 := Nat.le_trans s0 hb1.size
        obtain ⟨x0, x1, x2, x3, x4, x5, x6, x7⟩ := a1.cells
        have hb8 : Below w1.heap.size w1 (w1.alloc (.cells #[] 3)) := (Below.refl _ _).alloc (Nat.le_refl _) _
        have L := hF (some ⟨w1.heap.size, 0, none⟩) (w1.alloc (.cells #[] 3)) (bel_then B1 hb8)
        go_wp2_with (go_at_call 94; refine L.mono ?_; rintro r9 w9 ⟨rfl, hb9⟩; refine Hid.out ?_)
        refine Lib.hid ?_
        clear x0 x1 x2 x3 x4 x5 x6 x7
        have a7 := a1.below hb8
        have p7 := p1.below hb8
        have c7 := c1.below hb8
        have O7 := O1.below hb8
        have B7 := bel_then B1 hb8
        have s7 := Nat.le_trans s1 hb8.size
        have a9 := a7.below hb9
        have p9 := p7.below hb9
        have c9 := c7.below hb9
        have O9 := O7.below hb9
        have B9 := bel_then B7 hb9
        have s9 := Nat.le_trans s7 hb9.size
        obtain ⟨x0, x1, x2, x3, x4, x5, x6, x7⟩ := a9.cells
        have L := hP w9
        go_wp2_with (go_at_call 95; refine L.mono ?_; rintro r9 w10 ⟨rfl, hb10⟩; refine Hid.out ?_)
        refine Lib.hid ?_
        clear x0 x1 x2 x3 x4 x5 x6 x7
        have a10 := a9.below hb10
        have p10 := p9.below hb10
        have c10 := c9.below hb10
        have O10 := O9.below hb10
        have B10 := bel_then B9 hb10
        have s10 := Nat.le_trans s9 hb10.size
        have s11 := hb10.size
        clear L hP
        have hrow := O10.row 0 (by decide : 0 < 5)
        have fr := hrow.frozenAt n
        have cr := hrow.cellAt n (by show n < s.rows.length * 1; omega)
        simp only [rows5, List.getElem_cons_zero] at cr
        rw [strCells_at _ n hnl] at cr
        have st := (hrow.stored n (.string t)).1
        have hrt : r < top := (O10.1 _ (List.getElem_mem (by decide : 0 < 5))).2 r rfl
        have hpt : p < top := (O10.1 _ (List.getElem_mem (by decide : 1 < 5))).2 p rfl
        have hqt : q < top := (O10.1 _ (List.getElem_mem (by decide : 2 < 5))).2 q rfl
        have hrb : base ≤ r := (hrow.lt r rfl).1
        have hpb : base ≤ p := ((O10.row 1 (by decide : 1 < 5)).lt p rfl).1
        have hqb : base ≤ q := ((O10.row 2 (by decide : 2 < 5)).lt q rfl).1
        have hm1 : r < w10.heap.size := by omega
        have hm2 : w.heap.size < w10.heap.size := by omega
        have hm3 : w.heap.size + 1 < w10.heap.size := by omega
        have hm4 : w.heap.size + 1 + 1 < w10.heap.size := by omega
        obtain ⟨x0, x1, x2, x3, x4, x5, x6, x7⟩ := a10.cells
        go_upto_region 12 with fail
        have O11 := (O10.put 0 (by decide : 0 < 5) (r := ⟨9, 1, (s.rows.set n t).length, .slice (some ⟨r, 0, none⟩) (s.rows.set n t).length ya, strCells (s.rows.set n t)⟩) rfl (grown_set _ ⟨r, n, none⟩ (.string t)) (by simp only [rows5, List.getElem_cons_zero] at st; simp only [List.length_set]; rw [← strSet]; exact st)).alloc (.cells #[.int .i64 (n : Int), .int .i64 s.txg, .int .i64 (t.size : Int), .int .i64 z, .int .i64 lv] 45)
        have q11 : V5 ((w10.setCell ⟨r, n, none⟩ (.string t)).alloc (.cells #[.int .i64 (n : Int), .int .i64 s.txg, .int .i64 (t.size : Int), .int .i64 z, .int .i64 lv] 45)) w10.heap.size (n : Int) s.txg (t.size : Int) z lv := by
          have := V5.new (w10.setCell ⟨r, n, none⟩ (.string t)) (n : Int) s.txg (t.size : Int) z lv
          rwa [size_set] at this
        have a11 := (a10.set (p := ⟨r, n, none⟩) (by show w.heap.size ≠ r; omega) (.string t)).alloc (.cells #[.int .i64 (n : Int), .int .i64 s.txg, .int .i64 (t.size : Int), .int .i64 z, .int .i64 lv] 45)
        have c11 := (c10.set (p := ⟨r, n, none⟩) (by show w.heap.size + 1 ≠ r; omega) (.string t)).alloc (.cells #[.int .i64 (n : Int), .int .i64 s.txg, .int .i64 (t.size : Int), .int .i64 z, .int .i64 lv] 45)
        have p11 := (p10.set (p := ⟨r, n, none⟩) (by show w.heap.size + 1 + 1 ≠ r; omega) (.string t)).alloc (.cells #[.int .i64 (n : Int), .int .i64 s.txg, .int .i64 (t.size : Int), .int .i64 z, .int .i64 lv] 45)
        have B11 := ((B10.mono hbw).setCell (p := ⟨r, n, none⟩) hrb (.string t)).alloc (by rw [size_set]; omega) (.cells #[.int .i64 (n : Int), .int .i64 s.txg, .int .i64 (t.size : Int), .int .i64 z, .int .i64 lv] 45)
        have s13 : ((w10.setCell ⟨r, n, none⟩ (.string t)).alloc (.cells #[.int .i64 (n : Int), .int .i64 s.txg, .int .i64 (t.size : Int), .int .i64 z, .int .i64 lv] 45)).heap.size = w10.heap.size + 1 := by rw [World.size_alloc, size_set]
        generalize (w10.setCell ⟨r, n, none⟩ (.string t)).alloc (.cells #[.int .i64 (n : Int), .int .i64 s.txg, .int .i64 (t.size : Int), .int .i64 z, .int .i64 lv] 45) = W11 at O11 q11 a11 c11 p11 B11 s13 ⊢
        clear a10 c10 p10 B10 O10 hrow fr cr st x0 x1 x2 x3 x4 x5 x6 x7
        have hrow1 : W11.ownsRow base 3 1 (.slice (some ⟨p, 0, none⟩) s.sp.refs.length yr) s.sp.refs.length (intCells s.sp.refs) := O11.row 1 (by decide : 1 < 5)
        have fr1 := hrow1.frozenAt n
        have cr1 := hrow1.cellAt n (by show n < s.sp.refs.length * 1; omega)
        rw [intCells_at _ n hnr] at cr1
        have st1 := (hrow1.stored n (.int .i64 (s.sp.refs[n] + 1))).1
        rw [intCells_set] at st1
        have hu1 := HG.out
        rw [hu1] at hu9
        obtain ⟨u, hu⟩ : ∃ u, u = s.sp.refs[n] := ⟨_, rfl⟩
        rw [← hu] at cr1 st1 hu9 hu1
        have HU := Lib.hid hu1
        clear hu hu1 hrow1
        obtain ⟨x0, x1, x2, x3, x4, x5, x6, x7⟩ := a11.cells
        go_region
        go_upto_region 13 with fail
        have O12 := (O11.put 1 (by decide : 1 < 5) (r := ⟨3, 1, (s.sp.refs.set n (u + 1)).length, .slice (some ⟨p, 0, none⟩) (s.sp.refs.set n (u + 1)).length yr, intCells (s.sp.refs.set n (u + 1))⟩) rfl (grown_set _ ⟨p, n, none⟩ (.int .i64 (u + 1))) (by simp only [List.length_set]; exact st1)).drew
        have q12 := (q11.set (p := ⟨p, n, none⟩) (by show w10.heap.size ≠ p; omega) (.int .i64 (u + 1))).drew
        have a12 := (a11.set (p := ⟨p, n, none⟩) (by show w.heap.size ≠ p; omega) (.int .i64 (u + 1))).drew
        have c12 := (c11.set (p := ⟨p, n, none⟩) (by show w.heap.size + 1 ≠ p; omega) (.int .i64 (u + 1))).drew
        have p12 := (p11.set (p := ⟨p, n, none⟩) (by show w.heap.size + 1 + 1 ≠ p; omega) (.int .i64 (u + 1))).drew
        have B12 := (B11.setCell (p := ⟨p, n, none⟩) hpb (.int .i64 (u + 1))).drew
        generalize (W11.setCell ⟨p, n, none⟩ (.int .i64 (u + 1))).drew = W12 at O12 q12 a12 c12 p12 B12 ⊢
        clear O11 q11 a11 c11 p11 B11 st1 fr1 cr1 x0 x1 x2 x3 x4 x5 x6 x7
        have hrow2 : W12.ownsRow base 3 1 (.slice (some ⟨q, 0, none⟩) s.sp.last.length yl) s.sp.last.length (intCells s.sp.last) := O12.row 2 (by decide : 2 < 5)
        have fr2 := hrow2.frozenAt n
        have cr2 := hrow2.cellAt n (by show n < s.sp.last.length * 1; omega)
        rw [intCells_at _ n hnq] at cr2
        have st2 := (hrow2.stored n (.int .i64 s.txg)).1
        rw [intCells_set] at st2
        clear hrow2
        obtain ⟨x0, x1, x2, x3, x4, x5, x6, x7⟩ := a12.cells
        go_upto_region 14 with fail
        have O13 := O12.put 2 (by decide : 2 < 5) (r := ⟨3, 1, (s.sp.last.set n s.txg).length, .slice (some ⟨q, 0, none⟩) (s.sp.last.set n s.txg).length yl, intCells (s.sp.last.set n s.txg)⟩) rfl (grown_set _ ⟨q, n, none⟩ (.int .i64 s.txg)) (by simp only [List.length_set]; exact st2)
        have q13 := q12.set (p := ⟨q, n, none⟩) (by show w10.heap.size ≠ q; omega) (.int .i64 s.txg)
        have a13 := a12.set (p := ⟨q, n, none⟩) (by show w.heap.size ≠ q; omega) (.int .i64 s.txg)
        have c13 := c12.set (p := ⟨q, n, none⟩) (by show w.heap.size + 1 ≠ q; omega) (.int .i64 s.txg)
        have p13 := p12.set (p := ⟨q, n, none⟩) (by show w.heap.size + 1 + 1 ≠ q; omega) (.int .i64 s.txg)
        have B13 := B12.setCell (p := ⟨q, n, none⟩) hqb (.int .i64 s.txg)
        generalize W12.setCell ⟨q, n, none⟩ (.int .i64 s.txg) = W13 at O13 q13 a13 c13 p13 B13 ⊢
        clear O12 q12 a12 c12 p12 B12 st2 fr2 cr2 x0 x1 x2 x3 x4 x5 x6 x7
        have hput : putSt s n t = { s with rows := s.rows.set n t, sp := ⟨s.sp.refs.set n (u + 1), s.sp.last.set n s.txg⟩ } := by unfold putSt; rw [HU.out]
        have HPU := Lib.hid hput
        clear hput
        obtain ⟨x0, x1, x2, x3, x4, x5, x6, x7⟩ := a13.cells
        obtain ⟨k0, k1, k2, k3, k4⟩ := q13.cells
        obtain ⟨z0, z1, z2, z3, z4, z5, z6, z7⟩ := c13.cells
        obtain ⟨f0, f1, f2, f3, f4, f5, f6, f7⟩ := c13.fro
        obtain ⟨v0, v1, v2, v3, v4⟩ := p13.cells
        obtain ⟨g0, g1, g2, g3, g4⟩ := p13.fro
        go_region
        all_goals go_wp2_with fail
        all_goals (
          clear z0 z1 z2 z3 z4 z5 z6 z7 f0 f1 f2 f3 f4 f5 f6 f7 v0 v1 v2 v3 v4 g0 g1 g2 g3 g4
          have OG := (put5_ownW (P := w.heap.size + 1 + 1) (u0 := (n : Int)) (u1 := s.txg) (u2 := (t.size : Int)) (u3 := z) (u4 := lv) (set8_ownW (H := w.heap.size + 1) (u0 := .slice (some ⟨r, 0, none⟩) s.rows.length ya) (u1 := .slice (some ⟨p, 0, none⟩) s.sp.refs.length yr) (u2 := .slice (some ⟨q, 0, none⟩) s.sp.last.length yl) (u3 := .int .i64 s.txg) (u4 := .slice yG s.gone.length yg) (u5 := .int .i64 s.keep) (u6 := .slice yD s.dead.length yd) (u7 := .bool true) O13 (by omega)) (by omega)).at_top.base (base' := base) (by omega)
          have OG := own_drew_top OG
          have QC := (put5_far (P := w.heap.size + 1 + 1) (u0 := (n : Int)) (u1 := s.txg) (u2 := (t.size : Int)) (u3 := z) (u4 := lv) (set8_box (H := w.heap.size + 1) (u0 := .slice (some ⟨r, 0, none⟩) s.rows.length ya) (u1 := .slice (some ⟨p, 0, none⟩) s.sp.refs.length yr) (u2 := .slice (some ⟨q, 0, none⟩) s.sp.last.length yl) (u3 := .int .i64 s.txg) (u4 := .slice yG s.gone.length yg) (u5 := .int .i64 s.keep) (u6 := .slice yD s.dead.length yd) (u7 := .bool true) c13) (by omega)).drew.cells
          have QP := (V5.put (u0 := (n : Int)) (u1 := s.txg) (u2 := (t.size : Int)) (u3 := z) (u4 := lv) (v5_far8 (H := w.heap.size + 1) (u0 := .slice (some ⟨r, 0, none⟩) s.rows.length ya) (u1 := .slice (some ⟨p, 0, none⟩) s.sp.refs.length yr) (u2 := .slice (some ⟨q, 0, none⟩) s.sp.last.length yl) (u3 := .int .i64 s.txg) (u4 := .slice yG s.gone.length yg) (u5 := .int .i64 s.keep) (u6 := .slice yD s.dead.length yd) (u7 := .bool true) p13 (by omega))).drew.cells
          have BE := (put5_bel (P := w.heap.size + 1 + 1) (u0 := (n : Int)) (u1 := s.txg) (u2 := (t.size : Int)) (u3 := z) (u4 := lv) (set8_bel (H := w.heap.size + 1) (u0 := .slice (some ⟨r, 0, none⟩) s.rows.length ya) (u1 := .slice (some ⟨p, 0, none⟩) s.sp.refs.length yr) (u2 := .slice (some ⟨q, 0, none⟩) s.sp.last.length yl) (u3 := .int .i64 s.txg) (u4 := .slice yG s.gone.length yg) (u5 := .int .i64 s.keep) (u6 := .slice yD s.dead.length yd) (u7 := .bool true) B13 (by omega)) (by omega)).drew
          change bodyPost Try.prog Try.f60 _ Exit.ret _ (((((((((((((((W13.setCell ⟨w.heap.size + 1, 0, none⟩ (.slice (some ⟨r, 0, none⟩) s.rows.length ya)).setCell ⟨w.heap.size + 1, 1, none⟩ (.slice (some ⟨p, 0, none⟩) s.sp.refs.length yr)).setCell ⟨w.heap.size + 1, 2, none⟩ (.slice (some ⟨q, 0, none⟩) s.sp.last.length yl)).setCell ⟨w.heap.size + 1, 3, none⟩ (.int .i64 s.txg)).setCell ⟨w.heap.size + 1, 4, none⟩ (.slice yG s.gone.length yg)).setCell ⟨w.heap.size + 1, 5, none⟩ (.int .i64 s.keep)).setCell ⟨w.heap.size + 1, 6, none⟩ (.slice yD s.dead.length yd)).setCell ⟨w.heap.size + 1, 7, none⟩ (.bool true)).setCell ⟨w.heap.size + 1 + 1, 0, none⟩ (.int .i64 (n : Int))).setCell ⟨w.heap.size + 1 + 1, 1, none⟩ (.int .i64 s.txg)).setCell ⟨w.heap.size + 1 + 1, 2, none⟩ (.int .i64 (t.size : Int))).setCell ⟨w.heap.size + 1 + 1, 3, none⟩ (.int .i64 z)).setCell ⟨w.heap.size + 1 + 1, 4, none⟩ (.int .i64 lv))).drew)
          generalize ((((((((((((((W13.setCell ⟨w.heap.size + 1, 0, none⟩ (.slice (some ⟨r, 0, none⟩) s.rows.length ya)).setCell ⟨w.heap.size + 1, 1, none⟩ (.slice (some ⟨p, 0, none⟩) s.sp.refs.length yr)).setCell ⟨w.heap.size + 1, 2, none⟩ (.slice (some ⟨q, 0, none⟩) s.sp.last.length yl)).setCell ⟨w.heap.size + 1, 3, none⟩ (.int .i64 s.txg)).setCell ⟨w.heap.size + 1, 4, none⟩ (.slice yG s.gone.length yg)).setCell ⟨w.heap.size + 1, 5, none⟩ (.int .i64 s.keep)).setCell ⟨w.heap.size + 1, 6, none⟩ (.slice yD s.dead.length yd)).setCell ⟨w.heap.size + 1, 7, none⟩ (.bool true)).setCell ⟨w.heap.size + 1 + 1, 0, none⟩ (.int .i64 (n : Int))).setCell ⟨w.heap.size + 1 + 1, 1, none⟩ (.int .i64 s.txg)).setCell ⟨w.heap.size + 1 + 1, 2, none⟩ (.int .i64 (t.size : Int))).setCell ⟨w.heap.size + 1 + 1, 3, none⟩ (.int .i64 z)).setCell ⟨w.heap.size + 1 + 1, 4, none⟩ (.int .i64 lv))).drew = WF at OG QC QP BE ⊢
          obtain ⟨q0, q1, q2, q3, q4, q5, q6, q7⟩ := QC
          obtain ⟨r0, r1, r2, r3, r4⟩ := QP
          exact bodyPost_ret (v := .tuple #[.agg #[.slice (some ⟨r, 0, none⟩) s.rows.length ya, .slice (some ⟨p, 0, none⟩) s.sp.refs.length yr, .slice (some ⟨q, 0, none⟩) s.sp.last.length yl, .int .i64 s.txg, .slice yG s.gone.length yg, .int .i64 s.keep, .slice yD s.dead.length yd, .bool true], .agg #[.int .i64 (n : Int), .int .i64 s.txg, .int .i64 (t.size : Int), .int .i64 z, .int .i64 lv], .bool true]) (by simp [results, Try.f60, go_sem, q0, q1, q2, q3, q4, q5, q6, q7, r0, r1, r2, r3, r4]) rfl ⟨(⟨some ⟨r, 0, none⟩, ya, some ⟨p, 0, none⟩, yr, some ⟨q, 0, none⟩, yl, yG, yg, yD, yd⟩ : SA), by rw [HPU.out]; simp only [List.length_set, HSM.out], by rw [HPU.out]; exact OG, BE⟩)
      · have hk2 := hyes hsm hlv hk1
        simp only [hk2] at hLk
        clear hyes hno hsm hlv hk1 hk2 hF
        go_enter Try.func60, Try.ntmps60
        go_upto_region 2 with fail
        obtain ⟨W0, hW0⟩ : ∃ W, W = (((w.alloc (.cells #[.slice (some ⟨r, 0, none⟩) s.rows.length ya, .slice (some ⟨p, 0, none⟩) s.sp.refs.length yr, .slice (some ⟨q, 0, none⟩) s.sp.last.length yl, .int .i64 s.txg, .slice yG s.gone.length yg, .int .i64 s.keep, .slice yD s.dead.length yd, .bool true] 28)).alloc (.cells #[.slice none 0 0, .slice none 0 0, .slice none 0 0, .int .i64 0, .slice none 0 0, .int .i64 0, .slice none 0 0, .bool false] 28)).alloc (.cells #[.int .i64 0, .int .i64 0, .int .i64 0, .int .i64 0, .int .i64 0] 45)) := ⟨_, rfl⟩
        rw [← hW0] at a0 p0 c0 O0 B0 sz ⊢
        clear hW0
        have s0 := Nat.le_of_eq sz.symm
        clear sz
        obtain ⟨x0, x1, x2, x3, x4, x5, x6, x7⟩ := a0.cells
        go_wp2_with (go_at_call 93; refine (hLk W0 B0).mono ?_; rintro r9 w9 ⟨rfl, hb9⟩; refine Hid.out ?_)
        refine Lib.hid ?_
        clear x0 x1 x2 x3 x4 x5 x6 x7
        have a9 := a0.below hb9
        have p9 := p0.below hb9
        have c9 := c0.below hb9
        have O9 := O0.below hb9
        have B9 := bel_then B0 hb9
        have s9 := Nat.le_trans s0 hb9.size
        obtain ⟨x0, x1, x2, x3, x4, x5, x6, x7⟩ := a9.cells
        have L := hP w9
        go_wp2_with (go_at_call 95; refine L.mono ?_; rintro r9 w10 ⟨rfl, hb10⟩; refine Hid.out ?_)
        refine Lib.hid ?_
        clear x0 x1 x2 x3 x4 x5 x6 x7
        have a10 := a9.below hb10
        have p10 := p9.below hb10
        have c10 := c9.below hb10
        have O10 := O9.below hb10
        have B10 := bel_then B9 hb10
        have s10 := Nat.le_trans s9 hb10.size
        have s11 := hb10.size
        clear L hP
        have hrow := O10.row 0 (by decide : 0 < 5)
        have fr := hrow.frozenAt n
        have cr := hrow.cellAt n (by show n < s.rows.length * 1; omega)
        simp only [rows5, List.getElem_cons_zero] at cr
        rw [strCells_at _ n hnl] at cr
        have st := (hrow.stored n (.string t)).1
        have hrt : r < top := (O10.1 _ (List.getElem_mem (by decide : 0 < 5))).2 r rfl
        have hpt : p < top := (O10.1 _ (List.getElem_mem (by decide : 1 < 5))).2 p rfl
        have hqt : q < top := (O10.1 _ (List.getElem_mem (by decide : 2 < 5))).2 q rfl
        have hrb : base ≤ r := (hrow.lt r rfl).1
        have hpb : base ≤ p := ((O10.row 1 (by decide : 1 < 5)).lt p rfl).1
        have hqb : base ≤ q := ((O10.row 2 (by decide : 2 < 5)).lt q rfl).1
        have hm1 : r < w10.heap.size := by omega
        have hm2 : w.heap.size < w10.heap.size := by omega
        have hm3 : w.heap.size + 1 < w10.heap.size := by omega
        have hm4 : w.heap.size + 1 + 1 < w10.heap.size := by omega
        obtain ⟨x0, x1, x2, x3, x4, x5, x6, x7⟩ := a10.cells
        go_upto_region 12 with fail
        have O11 := (O10.put 0 (by decide : 0 < 5) (r := ⟨9, 1, (s.rows.set n t).length, .slice (some ⟨r, 0, none⟩) (s.rows.set n t).length ya, strCells (s.rows.set n t)⟩) rfl (grown_set _ ⟨r, n, none⟩ (.string t)) (by simp only [rows5, List.getElem_cons_zero] at st; simp only [List.length_set]; rw [← strSet]; exact st)).alloc (.cells #[.int .i64 (n : Int), .int .i64 s.txg, .int .i64 (t.size : Int), .int .i64 z, .int .i64 lv] 45)
        have q11 : V5 ((w10.setCell ⟨r, n, none⟩ (.string t)).alloc (.cells #[.int .i64 (n : Int), .int .i64 s.txg, .int .i64 (t.size : Int), .int .i64 z, .int .i64 lv] 45)) w10.heap.size (n : Int) s.txg (t.size : Int) z lv := by
          have := V5.new (w10.setCell ⟨r, n, none⟩ (.string t)) (n : Int) s.txg (t.size : Int) z lv
          rwa [size_set] at this
        have a11 := (a10.set (p := ⟨r, n, none⟩) (by show w.heap.size ≠ r; omega) (.string t)).alloc (.cells #[.int .i64 (n : Int), .int .i64 s.txg, .int .i64 (t.size : Int), .int .i64 z, .int .i64 lv] 45)
        have c11 := (c10.set (p := ⟨r, n, none⟩) (by show w.heap.size + 1 ≠ r; omega) (.string t)).alloc (.cells #[.int .i64 (n : Int), .int .i64 s.txg, .int .i64 (t.size : Int), .int .i64 z, .int .i64 lv] 45)
        have p11 := (p10.set (p := ⟨r, n, none⟩) (by show w.heap.size + 1 + 1 ≠ r; omega) (.string t)).alloc (.cells #[.int .i64 (n : Int), .int .i64 s.txg, .int .i64 (t.size : Int), .int .i64 z, .int .i64 lv] 45)
        have B11 := ((B10.mono hbw).setCell (p := ⟨r, n, none⟩) hrb (.string t)).alloc (by rw [size_set]; omega) (.cells #[.int .i64 (n : Int), .int .i64 s.txg, .int .i64 (t.size : Int), .int .i64 z, .int .i64 lv] 45)
        have s13 : ((w10.setCell ⟨r, n, none⟩ (.string t)).alloc (.cells #[.int .i64 (n : Int), .int .i64 s.txg, .int .i64 (t.size : Int), .int .i64 z, .int .i64 lv] 45)).heap.size = w10.heap.size + 1 := by rw [World.size_alloc, size_set]
        generalize (w10.setCell ⟨r, n, none⟩ (.string t)).alloc (.cells #[.int .i64 (n : Int), .int .i64 s.txg, .int .i64 (t.size : Int), .int .i64 z, .int .i64 lv] 45) = W11 at O11 q11 a11 c11 p11 B11 s13 ⊢
        clear a10 c10 p10 B10 O10 hrow fr cr st x0 x1 x2 x3 x4 x5 x6 x7
        have hrow1 : W11.ownsRow base 3 1 (.slice (some ⟨p, 0, none⟩) s.sp.refs.length yr) s.sp.refs.length (intCells s.sp.refs) := O11.row 1 (by decide : 1 < 5)
        have fr1 := hrow1.frozenAt n
        have cr1 := hrow1.cellAt n (by show n < s.sp.refs.length * 1; omega)
        rw [intCells_at _ n hnr] at cr1
        have st1 := (hrow1.stored n (.int .i64 (s.sp.refs[n] + 1))).1
        rw [intCells_set] at st1
        have hu1 := HG.out
        rw [hu1] at hu9
        obtain ⟨u, hu⟩ : ∃ u, u = s.sp.refs[n] := ⟨_, rfl⟩
        rw [← hu] at cr1 st1 hu9 hu1
        have HU := Lib.hid hu1
        clear hu hu1 hrow1
        obtain ⟨x0, x1, x2, x3, x4, x5, x6, x7⟩ := a11.cells
        go_region
        go_upto_region 13 with fail
        have O12 := (O11.put 1 (by decide : 1 < 5) (r := ⟨3, 1, (s.sp.refs.set n (u + 1)).length, .slice (some ⟨p, 0, none⟩) (s.sp.refs.set n (u + 1)).length yr, intCells (s.sp.refs.set n (u + 1))⟩) rfl (grown_set _ ⟨p, n, none⟩ (.int .i64 (u + 1))) (by simp only [List.length_set]; exact st1)).drew
        have q12 := (q11.set (p := ⟨p, n, none⟩) (by show w10.heap.size ≠ p; omega) (.int .i64 (u + 1))).drew
        have a12 := (a11.set (p := ⟨p, n, none⟩) (by show w.heap.size ≠ p; omega) (.int .i64 (u + 1))).drew
        have c12 := (c11.set (p := ⟨p, n, none⟩) (by show w.heap.size + 1 ≠ p; omega) (.int .i64 (u + 1))).drew
        have p12 := (p11.set (p := ⟨p, n, none⟩) (by show w.heap.size + 1 + 1 ≠ p; omega) (.int .i64 (u + 1))).drew
        have B12 := (B11.setCell (p := ⟨p, n, none⟩) hpb (.int .i64 (u + 1))).drew
        generalize (W11.setCell ⟨p, n, none⟩ (.int .i64 (u + 1))).drew = W12 at O12 q12 a12 c12 p12 B12 ⊢
        clear O11 q11 a11 c11 p11 B11 st1 fr1 cr1 x0 x1 x2 x3 x4 x5 x6 x7
        have hrow2 : W12.ownsRow base 3 1 (.slice (some ⟨q, 0, none⟩) s.sp.last.length yl) s.sp.last.length (intCells s.sp.last) := O12.row 2 (by decide : 2 < 5)
        have fr2 := hrow2.frozenAt n
        have cr2 := hrow2.cellAt n (by show n < s.sp.last.length * 1; omega)
        rw [intCells_at _ n hnq] at cr2
        have st2 := (hrow2.stored n (.int .i64 s.txg)).1
        rw [intCells_set] at st2
        clear hrow2
        obtain ⟨x0, x1, x2, x3, x4, x5, x6, x7⟩ := a12.cells
        go_upto_region 14 with fail
        have O13 := O12.put 2 (by decide : 2 < 5) (r := ⟨3, 1, (s.sp.last.set n s.txg).length, .slice (some ⟨q, 0, none⟩) (s.sp.last.set n s.txg).length yl, intCells (s.sp.last.set n s.txg)⟩) rfl (grown_set _ ⟨q, n, none⟩ (.int .i64 s.txg)) (by simp only [List.length_set]; exact st2)
        have q13 := q12.set (p := ⟨q, n, none⟩) (by show w10.heap.size ≠ q; omega) (.int .i64 s.txg)
        have a13 := a12.set (p := ⟨q, n, none⟩) (by show w.heap.size ≠ q; omega) (.int .i64 s.txg)
        have c13 := c12.set (p := ⟨q, n, none⟩) (by show w.heap.size + 1 ≠ q; omega) (.int .i64 s.txg)
        have p13 := p12.set (p := ⟨q, n, none⟩) (by show w.heap.size + 1 + 1 ≠ q; omega) (.int .i64 s.txg)
        have B13 := B12.setCell (p := ⟨q, n, none⟩) hqb (.int .i64 s.txg)
        generalize W12.setCell ⟨q, n, none⟩ (.int .i64 s.txg) = W13 at O13 q13 a13 c13 p13 B13 ⊢
        clear O12 q12 a12 c12 p12 B12 st2 fr2 cr2 x0 x1 x2 x3 x4 x5 x6 x7
        have hput : putSt s n t = { s with rows := s.rows.set n t, sp := ⟨s.sp.refs.set n (u + 1), s.sp.last.set n s.txg⟩ } := by unfold putSt; rw [HU.out]
        have HPU := Lib.hid hput
        clear hput
        obtain ⟨x0, x1, x2, x3, x4, x5, x6, x7⟩ := a13.cells
        obtain ⟨k0, k1, k2, k3, k4⟩ := q13.cells
        obtain ⟨z0, z1, z2, z3, z4, z5, z6, z7⟩ := c13.cells
        obtain ⟨f0, f1, f2, f3, f4, f5, f6, f7⟩ := c13.fro
        obtain ⟨v0, v1, v2, v3, v4⟩ := p13.cells
        obtain ⟨g0, g1, g2, g3, g4⟩ := p13.fro
        go_region
        all_goals go_wp2_with fail
        all_goals (
          clear z0 z1 z2 z3 z4 z5 z6 z7 f0 f1 f2 f3 f4 f5 f6 f7 v0 v1 v2 v3 v4 g0 g1 g2 g3 g4
          have OG := (put5_ownW (P := w.heap.size + 1 + 1) (u0 := (n : Int)) (u1 := s.txg) (u2 := (t.size : Int)) (u3 := z) (u4 := lv) (set8_ownW (H := w.heap.size + 1) (u0 := .slice (some ⟨r, 0, none⟩) s.rows.length ya) (u1 := .slice (some ⟨p, 0, none⟩) s.sp.refs.length yr) (u2 := .slice (some ⟨q, 0, none⟩) s.sp.last.length yl) (u3 := .int .i64 s.txg) (u4 := .slice yG s.gone.length yg) (u5 := .int .i64 s.keep) (u6 := .slice yD s.dead.length yd) (u7 := .bool true) O13 (by omega)) (by omega)).at_top.base (base' := base) (by omega)
          have OG := own_drew_top OG
          have QC := (put5_far (P := w.heap.size + 1 + 1) (u0 := (n : Int)) (u1 := s.txg) (u2 := (t.size : Int)) (u3 := z) (u4 := lv) (set8_box (H := w.heap.size + 1) (u0 := .slice (some ⟨r, 0, none⟩) s.rows.length ya) (u1 := .slice (some ⟨p, 0, none⟩) s.sp.refs.length yr) (u2 := .slice (some ⟨q, 0, none⟩) s.sp.last.length yl) (u3 := .int .i64 s.txg) (u4 := .slice yG s.gone.length yg) (u5 := .int .i64 s.keep) (u6 := .slice yD s.dead.length yd) (u7 := .bool true) c13) (by omega)).drew.cells
          have QP := (V5.put (u0 := (n : Int)) (u1 := s.txg) (u2 := (t.size : Int)) (u3 := z) (u4 := lv) (v5_far8 (H := w.heap.size + 1) (u0 := .slice (some ⟨r, 0, none⟩) s.rows.length ya) (u1 := .slice (some ⟨p, 0, none⟩) s.sp.refs.length yr) (u2 := .slice (some ⟨q, 0, none⟩) s.sp.last.length yl) (u3 := .int .i64 s.txg) (u4 := .slice yG s.gone.length yg) (u5 := .int .i64 s.keep) (u6 := .slice yD s.dead.length yd) (u7 := .bool true) p13 (by omega))).drew.cells
          have BE := (put5_bel (P := w.heap.size + 1 + 1) (u0 := (n : Int)) (u1 := s.txg) (u2 := (t.size : Int)) (u3 := z) (u4 := lv) (set8_bel (H := w.heap.size + 1) (u0 := .slice (some ⟨r, 0, none⟩) s.rows.length ya) (u1 := .slice (some ⟨p, 0, none⟩) s.sp.refs.length yr) (u2 := .slice (some ⟨q, 0, none⟩) s.sp.last.length yl) (u3 := .int .i64 s.txg) (u4 := .slice yG s.gone.length yg) (u5 := .int .i64 s.keep) (u6 := .slice yD s.dead.length yd) (u7 := .bool true) B13 (by omega)) (by omega)).drew
          change bodyPost Try.prog Try.f60 _ Exit.ret _ (((((((((((((((W13.setCell ⟨w.heap.size + 1, 0, none⟩ (.slice (some ⟨r, 0, none⟩) s.rows.length ya)).setCell ⟨w.heap.size + 1, 1, none⟩ (.slice (some ⟨p, 0, none⟩) s.sp.refs.length yr)).setCell ⟨w.heap.size + 1, 2, none⟩ (.slice (some ⟨q, 0, none⟩) s.sp.last.length yl)).setCell ⟨w.heap.size + 1, 3, none⟩ (.int .i64 s.txg)).setCell ⟨w.heap.size + 1, 4, none⟩ (.slice yG s.gone.length yg)).setCell ⟨w.heap.size + 1, 5, none⟩ (.int .i64 s.keep)).setCell ⟨w.heap.size + 1, 6, none⟩ (.slice yD s.dead.length yd)).setCell ⟨w.heap.size + 1, 7, none⟩ (.bool true)).setCell ⟨w.heap.size + 1 + 1, 0, none⟩ (.int .i64 (n : Int))).setCell ⟨w.heap.size + 1 + 1, 1, none⟩ (.int .i64 s.txg)).setCell ⟨w.heap.size + 1 + 1, 2, none⟩ (.int .i64 (t.size : Int))).setCell ⟨w.heap.size + 1 + 1, 3, none⟩ (.int .i64 z)).setCell ⟨w.heap.size + 1 + 1, 4, none⟩ (.int .i64 lv))).drew)
          generalize ((((((((((((((W13.setCell ⟨w.heap.size + 1, 0, none⟩ (.slice (some ⟨r, 0, none⟩) s.rows.length ya)).setCell ⟨w.heap.size + 1, 1, none⟩ (.slice (some ⟨p, 0, none⟩) s.sp.refs.length yr)).setCell ⟨w.heap.size + 1, 2, none⟩ (.slice (some ⟨q, 0, none⟩) s.sp.last.length yl)).setCell ⟨w.heap.size + 1, 3, none⟩ (.int .i64 s.txg)).setCell ⟨w.heap.size + 1, 4, none⟩ (.slice yG s.gone.length yg)).setCell ⟨w.heap.size + 1, 5, none⟩ (.int .i64 s.keep)).setCell ⟨w.heap.size + 1, 6, none⟩ (.slice yD s.dead.length yd)).setCell ⟨w.heap.size + 1, 7, none⟩ (.bool true)).setCell ⟨w.heap.size + 1 + 1, 0, none⟩ (.int .i64 (n : Int))).setCell ⟨w.heap.size + 1 + 1, 1, none⟩ (.int .i64 s.txg)).setCell ⟨w.heap.size + 1 + 1, 2, none⟩ (.int .i64 (t.size : Int))).setCell ⟨w.heap.size + 1 + 1, 3, none⟩ (.int .i64 z)).setCell ⟨w.heap.size + 1 + 1, 4, none⟩ (.int .i64 lv))).drew = WF at OG QC QP BE ⊢
          obtain ⟨q0, q1, q2, q3, q4, q5, q6, q7⟩ := QC
          obtain ⟨r0, r1, r2, r3, r4⟩ := QP
          exact bodyPost_ret (v := .tuple #[.agg #[.slice (some ⟨r, 0, none⟩) s.rows.length ya, .slice (some ⟨p, 0, none⟩) s.sp.refs.length yr, .slice (some ⟨q, 0, none⟩) s.sp.last.length yl, .int .i64 s.txg, .slice yG s.gone.length yg, .int .i64 s.keep, .slice yD s.dead.length yd, .bool true], .agg #[.int .i64 (n : Int), .int .i64 s.txg, .int .i64 (t.size : Int), .int .i64 z, .int .i64 lv], .bool true]) (by simp [results, Try.f60, go_sem, q0, q1, q2, q3, q4, q5, q6, q7, r0, r1, r2, r3, r4]) rfl ⟨(⟨some ⟨r, 0, none⟩, ya, some ⟨p, 0, none⟩, yr, some ⟨q, 0, none⟩, yl, yG, yg, yD, yd⟩ : SA), by rw [HPU.out]; simp only [List.length_set, HSM.out], by rw [HPU.out]; exact OG, BE⟩)
    · have hl0 : (lv == 0) = false := by simpa using hlv
      have hfd := hno (fun h => hlv h.2.1)
      simp only [hfd] at hF
      clear hyes hno hsm hlv hkk hfd
      go_enter Try.func60, Try.ntmps60
      go_upto_region 2 with fail
      obtain ⟨W0, hW0⟩ : ∃ W, W = (((w.alloc (.cells #[.slice (some ⟨r, 0, none⟩) s.rows.length ya, .slice (some ⟨p, 0, none⟩) s.sp.refs.length yr, .slice (some ⟨q, 0, none⟩) s.sp.last.length yl, .int .i64 s.txg, .slice yG s.gone.length yg, .int .i64 s.keep, .slice yD s.dead.length yd, .bool true] 28)).alloc (.cells #[.slice none 0 0, .slice none 0 0, .slice none 0 0, .int .i64 0, .slice none 0 0, .int .i64 0, .slice none 0 0, .bool false] 28)).alloc (.cells #[.int .i64 0, .int .i64 0, .int .i64 0, .int .i64 0, .int .i64 0] 45)) := ⟨_, rfl⟩
      rw [← hW0] at a0 p0 c0 O0 B0 sz ⊢
      clear hW0
      have s0 := Nat.le_of_eq sz.symm
      clear sz
      obtain ⟨x0, x1, x2, x3, x4, x5, x6, x7⟩ := a0.cells
      have hb8 : Below W0.heap.size W0 (W0.alloc (.cells #[] 3)) := (Below.refl _ _).alloc (Nat.le_refl _) _
      have L := hF (some ⟨W0.heap.size, 0, none⟩) (W0.alloc (.cells #[] 3)) (bel_then B0 hb8)
      go_wp2_with (go_at_call 94; refine L.mono ?_; rintro r9 w9 ⟨rfl, hb9⟩; refine Hid.out ?_)
      refine Lib.hid ?_
      clear x0 x1 x2 x3 x4 x5 x6 x7
      have a7 := a0.below hb8
      have p7 := p0.below hb8
      have c7 := c0.below hb8
      have O7 := O0.below hb8
      have B7 := bel_then B0 hb8
      have s7 := Nat.le_trans s0 hb8.size
      have a9 := a7.below hb9
      have p9 := p7.below hb9
      have c9 := c7.below hb9
      have O9 := O7.below hb9
      have B9 := bel_then B7 hb9
      have s9 := Nat.le_trans s7 hb9.size
      obtain ⟨x0, x1, x2, x3, x4, x5, x6, x7⟩ := a9.cells
      have L := hP w9
      go_wp2_with (go_at_call 95; refine L.mono ?_; rintro r9 w10 ⟨rfl, hb10⟩; refine Hid.out ?_)
      refine Lib.hid ?_
      clear x0 x1 x2 x3 x4 x5 x6 x7
      have a10 := a9.below hb10
      have p10 := p9.below hb10
      have c10 := c9.below hb10
      have O10 := O9.below hb10
      have B10 := bel_then B9 hb10
      have s10 := Nat.le_trans s9 hb10.size
      have s11 := hb10.size
      clear L hP
      have hrow := O10.row 0 (by decide : 0 < 5)
      have fr := hrow.frozenAt n
      have cr := hrow.cellAt n (by show n < s.rows.length * 1; omega)
      simp only [rows5, List.getElem_cons_zero] at cr
      rw [strCells_at _ n hnl] at cr
      have st := (hrow.stored n (.string t)).1
      have hrt : r < top := (O10.1 _ (List.getElem_mem (by decide : 0 < 5))).2 r rfl
      have hpt : p < top := (O10.1 _ (List.getElem_mem (by decide : 1 < 5))).2 p rfl
      have hqt : q < top := (O10.1 _ (List.getElem_mem (by decide : 2 < 5))).2 q rfl
      have hrb : base ≤ r := (hrow.lt r rfl).1
      have hpb : base ≤ p := ((O10.row 1 (by decide : 1 < 5)).lt p rfl).1
      have hqb : base ≤ q := ((O10.row 2 (by decide : 2 < 5)).lt q rfl).1
      have hm1 : r < w10.heap.size := by omega
      have hm2 : w.heap.size < w10.heap.size := by omega
      have hm3 : w.heap.size + 1 < w10.heap.size := by omega
      have hm4 : w.heap.size + 1 + 1 < w10.heap.size := by omega
      obtain ⟨x0, x1, x2, x3, x4, x5, x6, x7⟩ := a10.cells
      go_upto_region 12 with fail
      have O11 := (O10.put 0 (by decide : 0 < 5) (r := ⟨9, 1, (s.rows.set n t).length, .slice (some ⟨r, 0, none⟩) (s.rows.set n t).length ya, strCells (s.rows.set n t)⟩) rfl (grown_set _ ⟨r, n, none⟩ (.string t)) (by simp only [rows5, List.getElem_cons_zero] at st; simp only [List.length_set]; rw [← strSet]; exact st)).alloc (.cells #[.int .i64 (n : Int), .int .i64 s.txg, .int .i64 (t.size : Int), .int .i64 z, .int .i64 lv] 45)
      have q11 : V5 ((w10.setCell ⟨r, n, none⟩ (.string t)).alloc (.cells #[.int .i64 (n : Int), .int .i64 s.txg, .int .i64 (t.size : Int), .int .i64 z, .int .i64 lv] 45)) w10.heap.size (n : Int) s.txg (t.size : Int) z lv := by
        have := V5.new (w10.setCell ⟨r, n, none⟩ (.string t)) (n : Int) s.txg (t.size : Int) z lv
        rwa [size_set] at this
      have a11 := (a10.set (p := ⟨r, n, none⟩) (by show w.heap.size ≠ r; omega) (.string t)).alloc (.cells #[.int .i64 (n : Int), .int .i64 s.txg, .int .i64 (t.size : Int), .int .i64 z, .int .i64 lv] 45)
      have c11 := (c10.set (p := ⟨r, n, none⟩) (by show w.heap.size + 1 ≠ r; omega) (.string t)).alloc (.cells #[.int .i64 (n : Int), .int .i64 s.txg, .int .i64 (t.size : Int), .int .i64 z, .int .i64 lv] 45)
      have p11 := (p10.set (p := ⟨r, n, none⟩) (by show w.heap.size + 1 + 1 ≠ r; omega) (.string t)).alloc (.cells #[.int .i64 (n : Int), .int .i64 s.txg, .int .i64 (t.size : Int), .int .i64 z, .int .i64 lv] 45)
      have B11 := ((B10.mono hbw).setCell (p := ⟨r, n, none⟩) hrb (.string t)).alloc (by rw [size_set]; omega) (.cells #[.int .i64 (n : Int), .int .i64 s.txg, .int .i64 (t.size : Int), .int .i64 z, .int .i64 lv] 45)
      have s13 : ((w10.setCell ⟨r, n, none⟩ (.string t)).alloc (.cells #[.int .i64 (n : Int), .int .i64 s.txg, .int .i64 (t.size : Int), .int .i64 z, .int .i64 lv] 45)).heap.size = w10.heap.size + 1 := by rw [World.size_alloc, size_set]
      generalize (w10.setCell ⟨r, n, none⟩ (.string t)).alloc (.cells #[.int .i64 (n : Int), .int .i64 s.txg, .int .i64 (t.size : Int), .int .i64 z, .int .i64 lv] 45) = W11 at O11 q11 a11 c11 p11 B11 s13 ⊢
      clear a10 c10 p10 B10 O10 hrow fr cr st x0 x1 x2 x3 x4 x5 x6 x7
      have hrow1 : W11.ownsRow base 3 1 (.slice (some ⟨p, 0, none⟩) s.sp.refs.length yr) s.sp.refs.length (intCells s.sp.refs) := O11.row 1 (by decide : 1 < 5)
      have fr1 := hrow1.frozenAt n
      have cr1 := hrow1.cellAt n (by show n < s.sp.refs.length * 1; omega)
      rw [intCells_at _ n hnr] at cr1
      have st1 := (hrow1.stored n (.int .i64 (s.sp.refs[n] + 1))).1
      rw [intCells_set] at st1
      have hu1 := HG.out
      rw [hu1] at hu9
      obtain ⟨u, hu⟩ : ∃ u, u = s.sp.refs[n] := ⟨_, rfl⟩
      rw [← hu] at cr1 st1 hu9 hu1
      have HU := Lib.hid hu1
      clear hu hu1 hrow1
      obtain ⟨x0, x1, x2, x3, x4, x5, x6, x7⟩ := a11.cells
      go_region
      go_upto_region 13 with fail
      have O12 := (O11.put 1 (by decide : 1 < 5) (r := ⟨3, 1, (s.sp.refs.set n (u + 1)).length, .slice (some ⟨p, 0, none⟩) (s.sp.refs.set n (u + 1)).length yr, intCells (s.sp.refs.set n (u + 1))⟩) rfl (grown_set _ ⟨p, n, none⟩ (.int .i64 (u + 1))) (by simp only [List.length_set]; exact st1)).drew
      have q12 := (q11.set (p := ⟨p, n, none⟩) (by show w10.heap.size ≠ p; omega) (.int .i64 (u + 1))).drew
      have a12 := (a11.set (p := ⟨p, n, none⟩) (by show w.heap.size ≠ p; omega) (.int .i64 (u + 1))).drew
      have c12 := (c11.set (p := ⟨p, n, none⟩) (by show w.heap.size + 1 ≠ p; omega) (.int .i64 (u + 1))).drew
      have p12 := (p11.set (p := ⟨p, n, none⟩) (by show w.heap.size + 1 + 1 ≠ p; omega) (.int .i64 (u + 1))).drew
      have B12 := (B11.setCell (p := ⟨p, n, none⟩) hpb (.int .i64 (u + 1))).drew
      generalize (W11.setCell ⟨p, n, none⟩ (.int .i64 (u + 1))).drew = W12 at O12 q12 a12 c12 p12 B12 ⊢
      clear O11 q11 a11 c11 p11 B11 st1 fr1 cr1 x0 x1 x2 x3 x4 x5 x6 x7
      have hrow2 : W12.ownsRow base 3 1 (.slice (some ⟨q, 0, none⟩) s.sp.last.length yl) s.sp.last.length (intCells s.sp.last) := O12.row 2 (by decide : 2 < 5)
      have fr2 := hrow2.frozenAt n
      have cr2 := hrow2.cellAt n (by show n < s.sp.last.length * 1; omega)
      rw [intCells_at _ n hnq] at cr2
      have st2 := (hrow2.stored n (.int .i64 s.txg)).1
      rw [intCells_set] at st2
      clear hrow2
      obtain ⟨x0, x1, x2, x3, x4, x5, x6, x7⟩ := a12.cells
      go_upto_region 14 with fail
      have O13 := O12.put 2 (by decide : 2 < 5) (r := ⟨3, 1, (s.sp.last.set n s.txg).length, .slice (some ⟨q, 0, none⟩) (s.sp.last.set n s.txg).length yl, intCells (s.sp.last.set n s.txg)⟩) rfl (grown_set _ ⟨q, n, none⟩ (.int .i64 s.txg)) (by simp only [List.length_set]; exact st2)
      have q13 := q12.set (p := ⟨q, n, none⟩) (by show w10.heap.size ≠ q; omega) (.int .i64 s.txg)
      have a13 := a12.set (p := ⟨q, n, none⟩) (by show w.heap.size ≠ q; omega) (.int .i64 s.txg)
      have c13 := c12.set (p := ⟨q, n, none⟩) (by show w.heap.size + 1 ≠ q; omega) (.int .i64 s.txg)
      have p13 := p12.set (p := ⟨q, n, none⟩) (by show w.heap.size + 1 + 1 ≠ q; omega) (.int .i64 s.txg)
      have B13 := B12.setCell (p := ⟨q, n, none⟩) hqb (.int .i64 s.txg)
      generalize W12.setCell ⟨q, n, none⟩ (.int .i64 s.txg) = W13 at O13 q13 a13 c13 p13 B13 ⊢
      clear O12 q12 a12 c12 p12 B12 st2 fr2 cr2 x0 x1 x2 x3 x4 x5 x6 x7
      have hput : putSt s n t = { s with rows := s.rows.set n t, sp := ⟨s.sp.refs.set n (u + 1), s.sp.last.set n s.txg⟩ } := by unfold putSt; rw [HU.out]
      have HPU := Lib.hid hput
      clear hput
      obtain ⟨x0, x1, x2, x3, x4, x5, x6, x7⟩ := a13.cells
      obtain ⟨k0, k1, k2, k3, k4⟩ := q13.cells
      obtain ⟨z0, z1, z2, z3, z4, z5, z6, z7⟩ := c13.cells
      obtain ⟨f0, f1, f2, f3, f4, f5, f6, f7⟩ := c13.fro
      obtain ⟨v0, v1, v2, v3, v4⟩ := p13.cells
      obtain ⟨g0, g1, g2, g3, g4⟩ := p13.fro
      go_region
      all_goals go_wp2_with fail
      all_goals (
        clear z0 z1 z2 z3 z4 z5 z6 z7 f0 f1 f2 f3 f4 f5 f6 f7 v0 v1 v2 v3 v4 g0 g1 g2 g3 g4
        have OG := (put5_ownW (P := w.heap.size + 1 + 1) (u0 := (n : Int)) (u1 := s.txg) (u2 := (t.size : Int)) (u3 := z) (u4 := lv) (set8_ownW (H := w.heap.size + 1) (u0 := .slice (some ⟨r, 0, none⟩) s.rows.length ya) (u1 := .slice (some ⟨p, 0, none⟩) s.sp.refs.length yr) (u2 := .slice (some ⟨q, 0, none⟩) s.sp.last.length yl) (u3 := .int .i64 s.txg) (u4 := .slice yG s.gone.length yg) (u5 := .int .i64 s.keep) (u6 := .slice yD s.dead.length yd) (u7 := .bool true) O13 (by omega)) (by omega)).at_top.base (base' := base) (by omega)
        have OG := own_drew_top OG
        have QC := (put5_far (P := w.heap.size + 1 + 1) (u0 := (n : Int)) (u1 := s.txg) (u2 := (t.size : Int)) (u3 := z) (u4 := lv) (set8_box (H := w.heap.size + 1) (u0 := .slice (some ⟨r, 0, none⟩) s.rows.length ya) (u1 := .slice (some ⟨p, 0, none⟩) s.sp.refs.length yr) (u2 := .slice (some ⟨q, 0, none⟩) s.sp.last.length yl) (u3 := .int .i64 s.txg) (u4 := .slice yG s.gone.length yg) (u5 := .int .i64 s.keep) (u6 := .slice yD s.dead.length yd) (u7 := .bool true) c13) (by omega)).drew.cells
        have QP := (V5.put (u0 := (n : Int)) (u1 := s.txg) (u2 := (t.size : Int)) (u3 := z) (u4 := lv) (v5_far8 (H := w.heap.size + 1) (u0 := .slice (some ⟨r, 0, none⟩) s.rows.length ya) (u1 := .slice (some ⟨p, 0, none⟩) s.sp.refs.length yr) (u2 := .slice (some ⟨q, 0, none⟩) s.sp.last.length yl) (u3 := .int .i64 s.txg) (u4 := .slice yG s.gone.length yg) (u5 := .int .i64 s.keep) (u6 := .slice yD s.dead.length yd) (u7 := .bool true) p13 (by omega))).drew.cells
        have BE := (put5_bel (P := w.heap.size + 1 + 1) (u0 := (n : Int)) (u1 := s.txg) (u2 := (t.size : Int)) (u3 := z) (u4 := lv) (set8_bel (H := w.heap.size + 1) (u0 := .slice (some ⟨r, 0, none⟩) s.rows.length ya) (u1 := .slice (some ⟨p, 0, none⟩) s.sp.refs.length yr) (u2 := .slice (some ⟨q, 0, none⟩) s.sp.last.length yl) (u3 := .int .i64 s.txg) (u4 := .slice yG s.gone.length yg) (u5 := .int .i64 s.keep) (u6 := .slice yD s.dead.length yd) (u7 := .bool true) B13 (by omega)) (by omega)).drew
        change bodyPost Try.prog Try.f60 _ Exit.ret _ (((((((((((((((W13.setCell ⟨w.heap.size + 1, 0, none⟩ (.slice (some ⟨r, 0, none⟩) s.rows.length ya)).setCell ⟨w.heap.size + 1, 1, none⟩ (.slice (some ⟨p, 0, none⟩) s.sp.refs.length yr)).setCell ⟨w.heap.size + 1, 2, none⟩ (.slice (some ⟨q, 0, none⟩) s.sp.last.length yl)).setCell ⟨w.heap.size + 1, 3, none⟩ (.int .i64 s.txg)).setCell ⟨w.heap.size + 1, 4, none⟩ (.slice yG s.gone.length yg)).setCell ⟨w.heap.size + 1, 5, none⟩ (.int .i64 s.keep)).setCell ⟨w.heap.size + 1, 6, none⟩ (.slice yD s.dead.length yd)).setCell ⟨w.heap.size + 1, 7, none⟩ (.bool true)).setCell ⟨w.heap.size + 1 + 1, 0, none⟩ (.int .i64 (n : Int))).setCell ⟨w.heap.size + 1 + 1, 1, none⟩ (.int .i64 s.txg)).setCell ⟨w.heap.size + 1 + 1, 2, none⟩ (.int .i64 (t.size : Int))).setCell ⟨w.heap.size + 1 + 1, 3, none⟩ (.int .i64 z)).setCell ⟨w.heap.size + 1 + 1, 4, none⟩ (.int .i64 lv))).drew)
        generalize ((((((((((((((W13.setCell ⟨w.heap.size + 1, 0, none⟩ (.slice (some ⟨r, 0, none⟩) s.rows.length ya)).setCell ⟨w.heap.size + 1, 1, none⟩ (.slice (some ⟨p, 0, none⟩) s.sp.refs.length yr)).setCell ⟨w.heap.size + 1, 2, none⟩ (.slice (some ⟨q, 0, none⟩) s.sp.last.length yl)).setCell ⟨w.heap.size + 1, 3, none⟩ (.int .i64 s.txg)).setCell ⟨w.heap.size + 1, 4, none⟩ (.slice yG s.gone.length yg)).setCell ⟨w.heap.size + 1, 5, none⟩ (.int .i64 s.keep)).setCell ⟨w.heap.size + 1, 6, none⟩ (.slice yD s.dead.length yd)).setCell ⟨w.heap.size + 1, 7, none⟩ (.bool true)).setCell ⟨w.heap.size + 1 + 1, 0, none⟩ (.int .i64 (n : Int))).setCell ⟨w.heap.size + 1 + 1, 1, none⟩ (.int .i64 s.txg)).setCell ⟨w.heap.size + 1 + 1, 2, none⟩ (.int .i64 (t.size : Int))).setCell ⟨w.heap.size + 1 + 1, 3, none⟩ (.int .i64 z)).setCell ⟨w.heap.size + 1 + 1, 4, none⟩ (.int .i64 lv))).drew = WF at OG QC QP BE ⊢
        obtain ⟨q0, q1, q2, q3, q4, q5, q6, q7⟩ := QC
        obtain ⟨r0, r1, r2, r3, r4⟩ := QP
        exact bodyPost_ret (v := .tuple #[.agg #[.slice (some ⟨r, 0, none⟩) s.rows.length ya, .slice (some ⟨p, 0, none⟩) s.sp.refs.length yr, .slice (some ⟨q, 0, none⟩) s.sp.last.length yl, .int .i64 s.txg, .slice yG s.gone.length yg, .int .i64 s.keep, .slice yD s.dead.length yd, .bool true], .agg #[.int .i64 (n : Int), .int .i64 s.txg, .int .i64 (t.size : Int), .int .i64 z, .int .i64 lv], .bool true]) (by simp [results, Try.f60, go_sem, q0, q1, q2, q3, q4, q5, q6, q7, r0, r1, r2, r3, r4]) rfl ⟨(⟨some ⟨r, 0, none⟩, ya, some ⟨p, 0, none⟩, yr, some ⟨q, 0, none⟩, yl, yG, yg, yD, yd⟩ : SA), by rw [HPU.out]; simp only [List.length_set, HSM.out], by rw [HPU.out]; exact OG, BE⟩)
end Go.Proofs.Ytmnamclndpfjnaa

namespace Go.Proofs.Ytmnamclndpfjnaa
open Go.RowKit

set_option maxRecDepth 100000 in
set_option maxHeartbeats 4000000 in
theorem spec_swrite (x : SA) (s : St) (t : ByteArray) (lv : Int) (w : World) (hs : SBulk s) (hA : StAt w x s) :
    Calls Try.prog 23 #[(.agg #[.slice x.A s.rows.length x.a, .slice x.R s.sp.refs.length x.r, .slice x.L s.sp.last.length x.l, .int .i64 s.txg, .slice x.G s.gone.length x.g, .int .i64 s.keep, .slice x.D s.dead.length x.d, .bool s.same]), .string t, .int .i64 lv] w (TPost3 (writeS s t lv) (writeP s t lv) (writeF s t lv) w) := by
  have a0 := ((B8.new w 28 (.slice x.A s.rows.length x.a) (.slice x.R s.sp.refs.length x.r) (.slice x.L s.sp.last.length x.l) (.int .i64 s.txg) (.slice x.G s.gone.length x.g) (.int .i64 s.keep) (.slice x.D s.dead.length x.d) (.bool s.same)).alloc (.cells #[.slice none 0 0, .slice none 0 0, .slice none 0 0, .int .i64 0, .slice none 0 0, .int .i64 0, .slice none 0 0, .bool false] 28)).alloc (.cells #[.int .i64 0, .int .i64 0, .int .i64 0, .int .i64 0, .int .i64 0] 45)
  have c0 := (B8.new (w.alloc (.cells #[.slice x.A s.rows.length x.a, .slice x.R s.sp.refs.length x.r, .slice x.L s.sp.last.length x.l, .int .i64 s.txg, .slice x.G s.gone.length x.g, .int .i64 s.keep, .slice x.D s.dead.length x.d, .bool s.same] 28)) 28 (.slice none 0 0) (.slice none 0 0) (.slice none 0 0) (.int .i64 0) (.slice none 0 0) (.int .i64 0) (.slice none 0 0) (.bool false)).alloc (.cells #[.int .i64 0, .int .i64 0, .int .i64 0, .int .i64 0, .int .i64 0] 45)
  have p0 := V5.new ((w.alloc (.cells #[.slice x.A s.rows.length x.a, .slice x.R s.sp.refs.length x.r, .slice x.L s.sp.last.length x.l, .int .i64 s.txg, .slice x.G s.gone.length x.g, .int .i64 s.keep, .slice x.D s.dead.length x.d, .bool s.same] 28)).alloc (.cells #[.slice none 0 0, .slice none 0 0, .slice none 0 0, .int .i64 0, .slice none 0 0, .int .i64 0, .slice none 0 0, .bool false] 28)) 0 0 0 0 0
  rw [World.size_alloc] at c0
  rw [World.size_alloc, World.size_alloc] at p0
  have B0 := bel_new (bel_new (bel_new (Below.refl w.heap.size w) (.cells #[.slice x.A s.rows.length x.a, .slice x.R s.sp.refs.length x.r, .slice x.L s.sp.last.length x.l, .int .i64 s.txg, .slice x.G s.gone.length x.g, .int .i64 s.keep, .slice x.D s.dead.length x.d, .bool s.same] 28)) (.cells #[.slice none 0 0, .slice none 0 0, .slice none 0 0, .int .i64 0, .slice none 0 0, .int .i64 0, .slice none 0 0, .bool false] 28)) (.cells #[.int .i64 0, .int .i64 0, .int .i64 0, .int .i64 0, .int .i64 0] 45)
  have sz : (((w.alloc (.cells #[.slice x.A s.rows.length x.a, .slice x.R s.sp.refs.length x.r, .slice x.L s.sp.last.length x.l, .int .i64 s.txg, .slice x.G s.gone.length x.g, .int .i64 s.keep, .slice x.D s.dead.length x.d, .bool s.same] 28)).alloc (.cells #[.slice none 0 0, .slice none 0 0, .slice none 0 0, .int .i64 0, .slice none 0 0, .int .i64 0, .slice none 0 0, .bool false] 28)).alloc (.cells #[.int .i64 0, .int .i64 0, .int .i64 0, .int .i64 0, .int .i64 0] 45)).heap.size = w.heap.size + 1 + 1 + 1 := by rw [World.size_alloc, World.size_alloc, World.size_alloc]
  have HOO := spec_sok x s _ hs (hA.below B0)
  have hBk : ∀ W, Calls Try.prog 59 #[.string t] W fun r w' => r = .returned (.bool (decide (blockB t))) ∧ Below W.heap.size W w' := fun W => (spec_block t W).mono fun r w' ⟨h1, h2⟩ => ⟨h1, h2 ▸ Below.refl _ _⟩
  have hIn : ∀ W, Calls Try.prog 49 #[.int .i64 lv, .int .i64 0, .int .i64 2] W fun r w' => r = .returned (.bool (inB lv 0 2)) ∧ Below W.heap.size W w' := fun W => (s_in lv 0 2 W).mono fun r w' ⟨h1, h2⟩ => ⟨h1, h2 ▸ Below.refl _ _⟩
  by_cases hok : StOk s
  case neg =>
    rw [okSt_no hok] at HOO
    obtain ⟨e1, e2, e3⟩ := write_no (fun h : writeOk s t lv => hok h.1)
    rw [e1, e2, e3]
    clear hs hA hok hBk hIn e1 e2 e3
    go_enter Try.func23, Try.ntmps23
    go_upto_region 1 with fail
    obtain ⟨W0, hW0⟩ : ∃ W, W = (((w.alloc (.cells #[.slice x.A s.rows.length x.a, .slice x.R s.sp.refs.length x.r, .slice x.L s.sp.last.length x.l, .int .i64 s.txg, .slice x.G s.gone.length x.g, .int .i64 s.keep, .slice x.D s.dead.length x.d, .bool s.same] 28)).alloc (.cells #[.slice none 0 0, .slice none 0 0, .slice none 0 0, .int .i64 0, .slice none 0 0, .int .i64 0, .slice none 0 0, .bool false] 28)).alloc (.cells #[.int .i64 0, .int .i64 0, .int .i64 0, .int .i64 0, .int .i64 0] 45)) := ⟨_, rfl⟩
    rw [← hW0] at a0 p0 c0 B0 sz HOO ⊢
    clear hW0
    replace sz := Nat.le_of_eq sz.symm
    obtain ⟨x0, x1, x2, x3, x4, x5, x6, x7⟩ := a0.cells
    go_wp2_with (go_at_call 17; refine (HOO).mono ?_; rintro r w1 ⟨rfl, hb1⟩; refine Hid.out ?_)
    refine Lib.hid ?_
    clear x0 x1 x2 x3 x4 x5 x6 x7
    have a1 := a0.below hb1
    have p1 := p0.below hb1
    have c1 := c0.below hb1
    have B1 := bel_then B0 hb1
    have s1 := Nat.le_trans sz hb1.size
    obtain ⟨z0, z1, z2, z3, z4, z5, z6, z7⟩ := c1.cells
    obtain ⟨f0, f1, f2, f3, f4, f5, f6, f7⟩ := c1.fro
    obtain ⟨v0, v1, v2, v3, v4⟩ := p1.cells
    obtain ⟨g0, g1, g2, g3, g4⟩ := p1.fro
    go_wp2_with fail
    clear z0 z1 z2 z3 z4 z5 z6 z7 f0 f1 f2 f3 f4 f5 f6 f7 v0 v1 v2 v3 v4 g0 g1 g2 g3 g4
    have QC := (put5_far (P := w.heap.size + 1 + 1) (u0 := 0) (u1 := 0) (u2 := 0) (u3 := 0) (u4 := 0) (set8_box (H := w.heap.size + 1) (u0 := .slice none 0 0) (u1 := .slice none 0 0) (u2 := .slice none 0 0) (u3 := .int .i64 0) (u4 := .slice none 0 0) (u5 := .int .i64 0) (u6 := .slice none 0 0) (u7 := .bool false) c1) (by omega)).cells
    have QP := (V5.put (u0 := 0) (u1 := 0) (u2 := 0) (u3 := 0) (u4 := 0) (v5_far8 (H := w.heap.size + 1) (u0 := .slice none 0 0) (u1 := .slice none 0 0) (u2 := .slice none 0 0) (u3 := .int .i64 0) (u4 := .slice none 0 0) (u5 := .int .i64 0) (u6 := .slice none 0 0) (u7 := .bool false) p1 (by omega))).cells
    have BE := (put5_bel (P := w.heap.size + 1 + 1) (u0 := 0) (u1 := 0) (u2 := 0) (u3 := 0) (u4 := 0) (set8_bel (H := w.heap.size + 1) (u0 := .slice none 0 0) (u1 := .slice none 0 0) (u2 := .slice none 0 0) (u3 := .int .i64 0) (u4 := .slice none 0 0) (u5 := .int .i64 0) (u6 := .slice none 0 0) (u7 := .bool false) B1 (by omega)) (by omega))
    change bodyPost Try.prog Try.f23 _ Exit.ret _ ((((((((((((((w1.setCell ⟨w.heap.size + 1, 0, none⟩ (.slice none 0 0)).setCell ⟨w.heap.size + 1, 1, none⟩ (.slice none 0 0)).setCell ⟨w.heap.size + 1, 2, none⟩ (.slice none 0 0)).setCell ⟨w.heap.size + 1, 3, none⟩ (.int .i64 0)).setCell ⟨w.heap.size + 1, 4, none⟩ (.slice none 0 0)).setCell ⟨w.heap.size + 1, 5, none⟩ (.int .i64 0)).setCell ⟨w.heap.size + 1, 6, none⟩ (.slice none 0 0)).setCell ⟨w.heap.size + 1, 7, none⟩ (.bool false)).setCell ⟨w.heap.size + 1 + 1, 0, none⟩ (.int .i64 0)).setCell ⟨w.heap.size + 1 + 1, 1, none⟩ (.int .i64 0)).setCell ⟨w.heap.size + 1 + 1, 2, none⟩ (.int .i64 0)).setCell ⟨w.heap.size + 1 + 1, 3, none⟩ (.int .i64 0)).setCell ⟨w.heap.size + 1 + 1, 4, none⟩ (.int .i64 0)))
    generalize (((((((((((((w1.setCell ⟨w.heap.size + 1, 0, none⟩ (.slice none 0 0)).setCell ⟨w.heap.size + 1, 1, none⟩ (.slice none 0 0)).setCell ⟨w.heap.size + 1, 2, none⟩ (.slice none 0 0)).setCell ⟨w.heap.size + 1, 3, none⟩ (.int .i64 0)).setCell ⟨w.heap.size + 1, 4, none⟩ (.slice none 0 0)).setCell ⟨w.heap.size + 1, 5, none⟩ (.int .i64 0)).setCell ⟨w.heap.size + 1, 6, none⟩ (.slice none 0 0)).setCell ⟨w.heap.size + 1, 7, none⟩ (.bool false)).setCell ⟨w.heap.size + 1 + 1, 0, none⟩ (.int .i64 0)).setCell ⟨w.heap.size + 1 + 1, 1, none⟩ (.int .i64 0)).setCell ⟨w.heap.size + 1 + 1, 2, none⟩ (.int .i64 0)).setCell ⟨w.heap.size + 1 + 1, 3, none⟩ (.int .i64 0)).setCell ⟨w.heap.size + 1 + 1, 4, none⟩ (.int .i64 0)) = WF at QC QP BE ⊢
    obtain ⟨q0, q1, q2, q3, q4, q5, q6, q7⟩ := QC
    obtain ⟨r0, r1, r2, r3, r4⟩ := QP
    exact bodyPost_ret (v := .tuple #[.agg #[.slice none 0 0, .slice none 0 0, .slice none 0 0, .int .i64 0, .slice none 0 0, .int .i64 0, .slice none 0 0, .bool false], .agg #[.int .i64 0, .int .i64 0, .int .i64 0, .int .i64 0, .int .i64 0], .bool false]) (by simp [results, Try.f23, go_sem, q0, q1, q2, q3, q4, q5, q6, q7, r0, r1, r2, r3, r4]) rfl ⟨SA.none, rfl, own_none _ _ _, BE⟩
  rw [okSt_yes hok] at HOO
  by_cases hb : blockB t
  case neg =>
    obtain ⟨e1, e2, e3⟩ := write_no (fun h : writeOk s t lv => hb h.2.1)
    rw [e1, e2, e3]
    rw [decide_eq_false hb] at hBk
    clear hs hA hok hb hIn e1 e2 e3
    go_enter Try.func23, Try.ntmps23
    go_upto_region 1 with fail
    obtain ⟨W0, hW0⟩ : ∃ W, W = (((w.alloc (.cells #[.slice x.A s.rows.length x.a, .slice x.R s.sp.refs.length x.r, .slice x.L s.sp.last.length x.l, .int .i64 s.txg, .slice x.G s.gone.length x.g, .int .i64 s.keep, .slice x.D s.dead.length x.d, .bool s.same] 28)).alloc (.cells #[.slice none 0 0, .slice none 0 0, .slice none 0 0, .int .i64 0, .slice none 0 0, .int .i64 0, .slice none 0 0, .bool false] 28)).alloc (.cells #[.int .i64 0, .int .i64 0, .int .i64 0, .int .i64 0, .int .i64 0] 45)) := ⟨_, rfl⟩
    rw [← hW0] at a0 p0 c0 B0 sz HOO ⊢
    clear hW0
    replace sz := Nat.le_of_eq sz.symm
    obtain ⟨x0, x1, x2, x3, x4, x5, x6, x7⟩ := a0.cells
    go_wp2_with (go_at_call 17; refine (HOO).mono ?_; rintro r w1 ⟨rfl, hb1⟩; refine Hid.out ?_)
    refine Lib.hid ?_
    clear x0 x1 x2 x3 x4 x5 x6 x7
    have a1 := a0.below hb1
    have p1 := p0.below hb1
    have c1 := c0.below hb1
    have B1 := bel_then B0 hb1
    have s1 := Nat.le_trans sz hb1.size
    obtain ⟨x0, x1, x2, x3, x4, x5, x6, x7⟩ := a1.cells
    go_wp2_with (go_at_call 59; refine (hBk _).mono ?_; rintro r w2 ⟨rfl, hb2⟩; refine Hid.out ?_)
    refine Lib.hid ?_
    clear x0 x1 x2 x3 x4 x5 x6 x7
    have a2 := a1.below hb2
    have p2 := p1.below hb2
    have c2 := c1.below hb2
    have B2 := bel_then B1 hb2
    have s2 := Nat.le_trans s1 hb2.size
    obtain ⟨z0, z1, z2, z3, z4, z5, z6, z7⟩ := c2.cells
    obtain ⟨f0, f1, f2, f3, f4, f5, f6, f7⟩ := c2.fro
    obtain ⟨v0, v1, v2, v3, v4⟩ := p2.cells
    obtain ⟨g0, g1, g2, g3, g4⟩ := p2.fro
    go_wp2_with fail
    clear z0 z1 z2 z3 z4 z5 z6 z7 f0 f1 f2 f3 f4 f5 f6 f7 v0 v1 v2 v3 v4 g0 g1 g2 g3 g4
    have QC := (put5_far (P := w.heap.size + 1 + 1) (u0 := 0) (u1 := 0) (u2 := 0) (u3 := 0) (u4 := 0) (set8_box (H := w.heap.size + 1) (u0 := .slice none 0 0) (u1 := .slice none 0 0) (u2 := .slice none 0 0) (u3 := .int .i64 0) (u4 := .slice none 0 0) (u5 := .int .i64 0) (u6 := .slice none 0 0) (u7 := .bool false) c2) (by omega)).cells
    have QP := (V5.put (u0 := 0) (u1 := 0) (u2 := 0) (u3 := 0) (u4 := 0) (v5_far8 (H := w.heap.size + 1) (u0 := .slice none 0 0) (u1 := .slice none 0 0) (u2 := .slice none 0 0) (u3 := .int .i64 0) (u4 := .slice none 0 0) (u5 := .int .i64 0) (u6 := .slice none 0 0) (u7 := .bool false) p2 (by omega))).cells
    have BE := (put5_bel (P := w.heap.size + 1 + 1) (u0 := 0) (u1 := 0) (u2 := 0) (u3 := 0) (u4 := 0) (set8_bel (H := w.heap.size + 1) (u0 := .slice none 0 0) (u1 := .slice none 0 0) (u2 := .slice none 0 0) (u3 := .int .i64 0) (u4 := .slice none 0 0) (u5 := .int .i64 0) (u6 := .slice none 0 0) (u7 := .bool false) B2 (by omega)) (by omega))
    change bodyPost Try.prog Try.f23 _ Exit.ret _ ((((((((((((((w2.setCell ⟨w.heap.size + 1, 0, none⟩ (.slice none 0 0)).setCell ⟨w.heap.size + 1, 1, none⟩ (.slice none 0 0)).setCell ⟨w.heap.size + 1, 2, none⟩ (.slice none 0 0)).setCell ⟨w.heap.size + 1, 3, none⟩ (.int .i64 0)).setCell ⟨w.heap.size + 1, 4, none⟩ (.slice none 0 0)).setCell ⟨w.heap.size + 1, 5, none⟩ (.int .i64 0)).setCell ⟨w.heap.size + 1, 6, none⟩ (.slice none 0 0)).setCell ⟨w.heap.size + 1, 7, none⟩ (.bool false)).setCell ⟨w.heap.size + 1 + 1, 0, none⟩ (.int .i64 0)).setCell ⟨w.heap.size + 1 + 1, 1, none⟩ (.int .i64 0)).setCell ⟨w.heap.size + 1 + 1, 2, none⟩ (.int .i64 0)).setCell ⟨w.heap.size + 1 + 1, 3, none⟩ (.int .i64 0)).setCell ⟨w.heap.size + 1 + 1, 4, none⟩ (.int .i64 0)))
    generalize (((((((((((((w2.setCell ⟨w.heap.size + 1, 0, none⟩ (.slice none 0 0)).setCell ⟨w.heap.size + 1, 1, none⟩ (.slice none 0 0)).setCell ⟨w.heap.size + 1, 2, none⟩ (.slice none 0 0)).setCell ⟨w.heap.size + 1, 3, none⟩ (.int .i64 0)).setCell ⟨w.heap.size + 1, 4, none⟩ (.slice none 0 0)).setCell ⟨w.heap.size + 1, 5, none⟩ (.int .i64 0)).setCell ⟨w.heap.size + 1, 6, none⟩ (.slice none 0 0)).setCell ⟨w.heap.size + 1, 7, none⟩ (.bool false)).setCell ⟨w.heap.size + 1 + 1, 0, none⟩ (.int .i64 0)).setCell ⟨w.heap.size + 1 + 1, 1, none⟩ (.int .i64 0)).setCell ⟨w.heap.size + 1 + 1, 2, none⟩ (.int .i64 0)).setCell ⟨w.heap.size + 1 + 1, 3, none⟩ (.int .i64 0)).setCell ⟨w.heap.size + 1 + 1, 4, none⟩ (.int .i64 0)) = WF at QC QP BE ⊢
    obtain ⟨q0, q1, q2, q3, q4, q5, q6, q7⟩ := QC
    obtain ⟨r0, r1, r2, r3, r4⟩ := QP
    exact bodyPost_ret (v := .tuple #[.agg #[.slice none 0 0, .slice none 0 0, .slice none 0 0, .int .i64 0, .slice none 0 0, .int .i64 0, .slice none 0 0, .bool false], .agg #[.int .i64 0, .int .i64 0, .int .i64 0, .int .i64 0, .int .i64 0], .bool false]) (by simp [results, Try.f23, go_sem, q0, q1, q2, q3, q4, q5, q6, q7, r0, r1, r2, r3, r4]) rfl ⟨SA.none, rfl, own_none _ _ _, BE⟩
  rw [decide_eq_true hb] at hBk
  by_cases hl : 0 ≤ lv ∧ lv ≤ 2
  case neg =>
    obtain ⟨e1, e2, e3⟩ := write_no (fun h : writeOk s t lv => hl h.2.2.1)
    rw [e1, e2, e3]
    rw [inB_no hl] at hIn
    clear hs hA hok hb hl e1 e2 e3
    go_enter Try.func23, Try.ntmps23
    go_upto_region 1 with fail
    obtain ⟨W0, hW0⟩ : ∃ W, W = (((w.alloc (.cells #[.slice x.A s.rows.length x.a, .slice x.R s.sp.refs.length x.r, .slice x.L s.sp.last.length x.l, .int .i64 s.txg, .slice x.G s.gone.length x.g, .int .i64 s.keep, .slice x.D s.dead.length x.d, .bool s.same] 28)).alloc (.cells #[.slice none 0 0, .slice none 0 0, .slice none 0 0, .int .i64 0, .slice none 0 0, .int .i64 0, .slice none 0 0, .bool false] 28)).alloc (.cells #[.int .i64 0, .int .i64 0, .int .i64 0, .int .i64 0, .int .i64 0] 45)) := ⟨_, rfl⟩
    rw [← hW0] at a0 p0 c0 B0 sz HOO ⊢
    clear hW0
    replace sz := Nat.le_of_eq sz.symm
    obtain ⟨x0, x1, x2, x3, x4, x5, x6, x7⟩ := a0.cells
    go_wp2_with (go_at_call 17; refine (HOO).mono ?_; rintro r w1 ⟨rfl, hb1⟩; refine Hid.out ?_)
    refine Lib.hid ?_
    clear x0 x1 x2 x3 x4 x5 x6 x7
    have a1 := a0.below hb1
    have p1 := p0.below hb1
    have c1 := c0.below hb1
    have B1 := bel_then B0 hb1
    have s1 := Nat.le_trans sz hb1.size
    obtain ⟨x0, x1, x2, x3, x4, x5, x6, x7⟩ := a1.cells
    go_wp2_with (go_at_call 59; refine (hBk _).mono ?_; rintro r w2 ⟨rfl, hb2⟩; refine Hid.out ?_)
    refine Lib.hid ?_
    clear x0 x1 x2 x3 x4 x5 x6 x7
    have a2 := a1.below hb2
    have p2 := p1.below hb2
    have c2 := c1.below hb2
    have B2 := bel_then B1 hb2
    have s2 := Nat.le_trans s1 hb2.size
    obtain ⟨x0, x1, x2, x3, x4, x5, x6, x7⟩ := a2.cells
    go_wp2_with (go_at_call 49; refine (hIn _).mono ?_; rintro r w3 ⟨rfl, hb3⟩; refine Hid.out ?_)
    refine Lib.hid ?_
    clear x0 x1 x2 x3 x4 x5 x6 x7
    have a3 := a2.below hb3
    have p3 := p2.below hb3
    have c3 := c2.below hb3
    have B3 := bel_then B2 hb3
    have s3 := Nat.le_trans s2 hb3.size
    obtain ⟨z0, z1, z2, z3, z4, z5, z6, z7⟩ := c3.cells
    obtain ⟨f0, f1, f2, f3, f4, f5, f6, f7⟩ := c3.fro
    obtain ⟨v0, v1, v2, v3, v4⟩ := p3.cells
    obtain ⟨g0, g1, g2, g3, g4⟩ := p3.fro
    go_wp2_with fail
    clear z0 z1 z2 z3 z4 z5 z6 z7 f0 f1 f2 f3 f4 f5 f6 f7 v0 v1 v2 v3 v4 g0 g1 g2 g3 g4
    have QC := (put5_far (P := w.heap.size + 1 + 1) (u0 := 0) (u1 := 0) (u2 := 0) (u3 := 0) (u4 := 0) (set8_box (H := w.heap.size + 1) (u0 := .slice none 0 0) (u1 := .slice none 0 0) (u2 := .slice none 0 0) (u3 := .int .i64 0) (u4 := .slice none 0 0) (u5 := .int .i64 0) (u6 := .slice none 0 0) (u7 := .bool false) c3) (by omega)).cells
    have QP := (V5.put (u0 := 0) (u1 := 0) (u2 := 0) (u3 := 0) (u4 := 0) (v5_far8 (H := w.heap.size + 1) (u0 := .slice none 0 0) (u1 := .slice none 0 0) (u2 := .slice none 0 0) (u3 := .int .i64 0) (u4 := .slice none 0 0) (u5 := .int .i64 0) (u6 := .slice none 0 0) (u7 := .bool false) p3 (by omega))).cells
    have BE := (put5_bel (P := w.heap.size + 1 + 1) (u0 := 0) (u1 := 0) (u2 := 0) (u3 := 0) (u4 := 0) (set8_bel (H := w.heap.size + 1) (u0 := .slice none 0 0) (u1 := .slice none 0 0) (u2 := .slice none 0 0) (u3 := .int .i64 0) (u4 := .slice none 0 0) (u5 := .int .i64 0) (u6 := .slice none 0 0) (u7 := .bool false) B3 (by omega)) (by omega))
    change bodyPost Try.prog Try.f23 _ Exit.ret _ ((((((((((((((w3.setCell ⟨w.heap.size + 1, 0, none⟩ (.slice none 0 0)).setCell ⟨w.heap.size + 1, 1, none⟩ (.slice none 0 0)).setCell ⟨w.heap.size + 1, 2, none⟩ (.slice none 0 0)).setCell ⟨w.heap.size + 1, 3, none⟩ (.int .i64 0)).setCell ⟨w.heap.size + 1, 4, none⟩ (.slice none 0 0)).setCell ⟨w.heap.size + 1, 5, none⟩ (.int .i64 0)).setCell ⟨w.heap.size + 1, 6, none⟩ (.slice none 0 0)).setCell ⟨w.heap.size + 1, 7, none⟩ (.bool false)).setCell ⟨w.heap.size + 1 + 1, 0, none⟩ (.int .i64 0)).setCell ⟨w.heap.size + 1 + 1, 1, none⟩ (.int .i64 0)).setCell ⟨w.heap.size + 1 + 1, 2, none⟩ (.int .i64 0)).setCell ⟨w.heap.size + 1 + 1, 3, none⟩ (.int .i64 0)).setCell ⟨w.heap.size + 1 + 1, 4, none⟩ (.int .i64 0)))
    generalize (((((((((((((w3.setCell ⟨w.heap.size + 1, 0, none⟩ (.slice none 0 0)).setCell ⟨w.heap.size + 1, 1, none⟩ (.slice none 0 0)).setCell ⟨w.heap.size + 1, 2, none⟩ (.slice none 0 0)).setCell ⟨w.heap.size + 1, 3, none⟩ (.int .i64 0)).setCell ⟨w.heap.size + 1, 4, none⟩ (.slice none 0 0)).setCell ⟨w.heap.size + 1, 5, none⟩ (.int .i64 0)).setCell ⟨w.heap.size + 1, 6, none⟩ (.slice none 0 0)).setCell ⟨w.heap.size + 1, 7, none⟩ (.bool false)).setCell ⟨w.heap.size + 1 + 1, 0, none⟩ (.int .i64 0)).setCell ⟨w.heap.size + 1 + 1, 1, none⟩ (.int .i64 0)).setCell ⟨w.heap.size + 1 + 1, 2, none⟩ (.int .i64 0)).setCell ⟨w.heap.size + 1 + 1, 3, none⟩ (.int .i64 0)).setCell ⟨w.heap.size + 1 + 1, 4, none⟩ (.int .i64 0)) = WF at QC QP BE ⊢
    obtain ⟨q0, q1, q2, q3, q4, q5, q6, q7⟩ := QC
    obtain ⟨r0, r1, r2, r3, r4⟩ := QP
    exact bodyPost_ret (v := .tuple #[.agg #[.slice none 0 0, .slice none 0 0, .slice none 0 0, .int .i64 0, .slice none 0 0, .int .i64 0, .slice none 0 0, .bool false], .agg #[.int .i64 0, .int .i64 0, .int .i64 0, .int .i64 0, .int .i64 0], .bool false]) (by simp [results, Try.f23, go_sem, q0, q1, q2, q3, q4, q5, q6, q7, r0, r1, r2, r3, r4]) rfl ⟨SA.none, rfl, own_none _ _ _, BE⟩
  rw [inB_yes hl] at hIn
  have hcp := fun W (hW : Below w.heap.size w W) => spec_l7copy x s W hs hok.sp.1 hok.sp.2.1 (hA.below hW)
  unfold TPost at hcp
  have hz1 : 0 < s.rows.length := by rw [hok.len]; decide
  have hz2 : 0 < s.sp.refs.length := by rw [hok.sp.1]; decide
  have hz3 : 0 < s.sp.last.length := by rw [hok.sp.2.1]; decide
  rcases row_range hok t lv with hrw | ⟨n, hrw, h8, h64, hlast⟩
  · obtain ⟨e1, e2, e3⟩ := write_no (fun h : writeOk s t lv => by have := h.2.2.2; omega)
    rw [e1, e2, e3]
    have hN := fun r p q ya yr yl yg yd base top yG yD W hO => l7write_no r p q ya yr yl yg yd base top yG yD s t lv W hs hok hO hrw
    clear hs hA hok hb hl e1 e2 e3 hrw
    go_enter Try.func23, Try.ntmps23
    go_upto_region 1 with fail
    obtain ⟨W0, hW0⟩ : ∃ W, W = (((w.alloc (.cells #[.slice x.A s.rows.length x.a, .slice x.R s.sp.refs.length x.r, .slice x.L s.sp.last.length x.l, .int .i64 s.txg, .slice x.G s.gone.length x.g, .int .i64 s.keep, .slice x.D s.dead.length x.d, .bool s.same] 28)).alloc (.cells #[.slice none 0 0, .slice none 0 0, .slice none 0 0, .int .i64 0, .slice none 0 0, .int .i64 0, .slice none 0 0, .bool false] 28)).alloc (.cells #[.int .i64 0, .int .i64 0, .int .i64 0, .int .i64 0, .int .i64 0] 45)) := ⟨_, rfl⟩
    rw [← hW0] at a0 p0 c0 B0 sz HOO ⊢
    clear hW0
    replace sz := Nat.le_of_eq sz.symm
    obtain ⟨x0, x1, x2, x3, x4, x5, x6, x7⟩ := a0.cells
    go_wp2_with (go_at_call 17; refine (HOO).mono ?_; rintro r w1 ⟨rfl, hb1⟩; refine Hid.out ?_)
    refine Lib.hid ?_
    clear x0 x1 x2 x3 x4 x5 x6 x7
    have a1 := a0.below hb1
    have p1 := p0.below hb1
    have c1 := c0.below hb1
    have B1 := bel_then B0 hb1
    have s1 := Nat.le_trans sz hb1.size
    obtain ⟨x0, x1, x2, x3, x4, x5, x6, x7⟩ := a1.cells
    go_wp2_with (go_at_call 59; refine (hBk _).mono ?_; rintro r w2 ⟨rfl, hb2⟩; refine Hid.out ?_)
    refine Lib.hid ?_
    clear x0 x1 x2 x3 x4 x5 x6 x7
    have a2 := a1.below hb2
    have p2 := p1.below hb2
    have c2 := c1.below hb2
    have B2 := bel_then B1 hb2
    have s2 := Nat.le_trans s1 hb2.size
    obtain ⟨x0, x1, x2, x3, x4, x5, x6, x7⟩ := a2.cells
    go_wp2_with (go_at_call 49; refine (hIn _).mono ?_; rintro r w3 ⟨rfl, hb3⟩; refine Hid.out ?_)
    refine Lib.hid ?_
    clear x0 x1 x2 x3 x4 x5 x6 x7
    have a3 := a2.below hb3
    have p3 := p2.below hb3
    have c3 := c2.below hb3
    have B3 := bel_then B2 hb3
    have s3 := Nat.le_trans s2 hb3.size
    obtain ⟨x0, x1, x2, x3, x4, x5, x6, x7⟩ := a3.cells
    have L := hcp _ B3
    go_wp2_with (go_at_call 61; refine L.mono ?_; rintro rr w4 ⟨y, rfl, O, hb4⟩; refine Hid.out ?_)
    refine Lib.hid ?_
    clear x0 x1 x2 x3 x4 x5 x6 x7 L hcp
    obtain ⟨yA, ya, yR, yr, yL, yl, yG, yg, yD, yd⟩ := y
    obtain ⟨r, e1⟩ := own_addr (O.row 0 (by decide : 0 < 5)) hz1
    obtain ⟨p, e2⟩ := own_addr (O.row 1 (by decide : 1 < 5)) hz2
    obtain ⟨q, e3⟩ := own_addr (O.row 2 (by decide : 2 < 5)) hz3
    dsimp only at e1 e2 e3 ⊢
    subst e1 e2 e3
    have p4 := p3.below hb4
    have c4 := c3.below hb4
    have B4 := bel_then B3 hb4
    have s4 := Nat.le_trans s3 hb4.size
    have L := hN r p q ya yr yl yg yd _ _ yG yD w4 O
    unfold LwNo at L
    go_wp2_with (go_at_call 60; refine L.mono ?_; rintro rr w5 ⟨rfl, hb5⟩; refine Hid.out ?_)
    refine Lib.hid ?_
    clear L hN
    have p6 := ((p4.below hb5).alloc (.cells #[.slice (some ⟨r, 0, none⟩) s.rows.length ya, .slice (some ⟨p, 0, none⟩) s.sp.refs.length yr, .slice (some ⟨q, 0, none⟩) s.sp.last.length yl, .int .i64 s.txg, .slice yG s.gone.length yg, .int .i64 s.keep, .slice yD s.dead.length yd, .bool s.same] 28)).alloc (.cells #[.int .i64 0, .int .i64 0, .int .i64 0, .int .i64 0, .int .i64 0] 45)
    have c6 := ((c4.below hb5).alloc (.cells #[.slice (some ⟨r, 0, none⟩) s.rows.length ya, .slice (some ⟨p, 0, none⟩) s.sp.refs.length yr, .slice (some ⟨q, 0, none⟩) s.sp.last.length yl, .int .i64 s.txg, .slice yG s.gone.length yg, .int .i64 s.keep, .slice yD s.dead.length yd, .bool s.same] 28)).alloc (.cells #[.int .i64 0, .int .i64 0, .int .i64 0, .int .i64 0, .int .i64 0] 45)
    have B6 := bel_new (bel_new (bel_then B4 hb5) (.cells #[.slice (some ⟨r, 0, none⟩) s.rows.length ya, .slice (some ⟨p, 0, none⟩) s.sp.refs.length yr, .slice (some ⟨q, 0, none⟩) s.sp.last.length yl, .int .i64 s.txg, .slice yG s.gone.length yg, .int .i64 s.keep, .slice yD s.dead.length yd, .bool s.same] 28)) (.cells #[.int .i64 0, .int .i64 0, .int .i64 0, .int .i64 0, .int .i64 0] 45)
    have hl1 : w.heap.size + 1 < w5.heap.size := by have := hb5.size; omega
    have hl2 : w.heap.size + 1 + 1 < w5.heap.size := by have := hb5.size; omega
    clear p4 c4 B4 O hb5 p3 c3 B3 hb4
    go_upto_region 4 with fail
    generalize (w5.alloc (.cells #[.slice (some ⟨r, 0, none⟩) s.rows.length ya, .slice (some ⟨p, 0, none⟩) s.sp.refs.length yr, .slice (some ⟨q, 0, none⟩) s.sp.last.length yl, .int .i64 s.txg, .slice yG s.gone.length yg, .int .i64 s.keep, .slice yD s.dead.length yd, .bool s.same] 28)).alloc (.cells #[.int .i64 0, .int .i64 0, .int .i64 0, .int .i64 0, .int .i64 0] 45) = w6 at p6 c6 B6 ⊢
    obtain ⟨z0, z1, z2, z3, z4, z5, z6, z7⟩ := c6.cells
    obtain ⟨f0, f1, f2, f3, f4, f5, f6, f7⟩ := c6.fro
    obtain ⟨v0, v1, v2, v3, v4⟩ := p6.cells
    obtain ⟨g0, g1, g2, g3, g4⟩ := p6.fro
    go_wp2_with fail
    clear z0 z1 z2 z3 z4 z5 z6 z7 f0 f1 f2 f3 f4 f5 f6 f7 v0 v1 v2 v3 v4 g0 g1 g2 g3 g4
    have QC := (put5_far (P := w.heap.size + 1 + 1) (u0 := 0) (u1 := 0) (u2 := 0) (u3 := 0) (u4 := 0) (set8_box (H := w.heap.size + 1) (u0 := .slice none 0 0) (u1 := .slice none 0 0) (u2 := .slice none 0 0) (u3 := .int .i64 0) (u4 := .slice none 0 0) (u5 := .int .i64 0) (u6 := .slice none 0 0) (u7 := .bool false) c6) (by omega)).cells
    have QP := (V5.put (u0 := 0) (u1 := 0) (u2 := 0) (u3 := 0) (u4 := 0) (v5_far8 (H := w.heap.size + 1) (u0 := .slice none 0 0) (u1 := .slice none 0 0) (u2 := .slice none 0 0) (u3 := .int .i64 0) (u4 := .slice none 0 0) (u5 := .int .i64 0) (u6 := .slice none 0 0) (u7 := .bool false) p6 (by omega))).cells
    have BE := (put5_bel (P := w.heap.size + 1 + 1) (u0 := 0) (u1 := 0) (u2 := 0) (u3 := 0) (u4 := 0) (set8_bel (H := w.heap.size + 1) (u0 := .slice none 0 0) (u1 := .slice none 0 0) (u2 := .slice none 0 0) (u3 := .int .i64 0) (u4 := .slice none 0 0) (u5 := .int .i64 0) (u6 := .slice none 0 0) (u7 := .bool false) B6 (by omega)) (by omega))
    change bodyPost Try.prog Try.f23 _ Exit.ret _ ((((((((((((((w6.setCell ⟨w.heap.size + 1, 0, none⟩ (.slice none 0 0)).setCell ⟨w.heap.size + 1, 1, none⟩ (.slice none 0 0)).setCell ⟨w.heap.size + 1, 2, none⟩ (.slice none 0 0)).setCell ⟨w.heap.size + 1, 3, none⟩ (.int .i64 0)).setCell ⟨w.heap.size + 1, 4, none⟩ (.slice none 0 0)).setCell ⟨w.heap.size + 1, 5, none⟩ (.int .i64 0)).setCell ⟨w.heap.size + 1, 6, none⟩ (.slice none 0 0)).setCell ⟨w.heap.size + 1, 7, none⟩ (.bool false)).setCell ⟨w.heap.size + 1 + 1, 0, none⟩ (.int .i64 0)).setCell ⟨w.heap.size + 1 + 1, 1, none⟩ (.int .i64 0)).setCell ⟨w.heap.size + 1 + 1, 2, none⟩ (.int .i64 0)).setCell ⟨w.heap.size + 1 + 1, 3, none⟩ (.int .i64 0)).setCell ⟨w.heap.size + 1 + 1, 4, none⟩ (.int .i64 0)))
    generalize (((((((((((((w6.setCell ⟨w.heap.size + 1, 0, none⟩ (.slice none 0 0)).setCell ⟨w.heap.size + 1, 1, none⟩ (.slice none 0 0)).setCell ⟨w.heap.size + 1, 2, none⟩ (.slice none 0 0)).setCell ⟨w.heap.size + 1, 3, none⟩ (.int .i64 0)).setCell ⟨w.heap.size + 1, 4, none⟩ (.slice none 0 0)).setCell ⟨w.heap.size + 1, 5, none⟩ (.int .i64 0)).setCell ⟨w.heap.size + 1, 6, none⟩ (.slice none 0 0)).setCell ⟨w.heap.size + 1, 7, none⟩ (.bool false)).setCell ⟨w.heap.size + 1 + 1, 0, none⟩ (.int .i64 0)).setCell ⟨w.heap.size + 1 + 1, 1, none⟩ (.int .i64 0)).setCell ⟨w.heap.size + 1 + 1, 2, none⟩ (.int .i64 0)).setCell ⟨w.heap.size + 1 + 1, 3, none⟩ (.int .i64 0)).setCell ⟨w.heap.size + 1 + 1, 4, none⟩ (.int .i64 0)) = WF at QC QP BE ⊢
    obtain ⟨q0, q1, q2, q3, q4, q5, q6, q7⟩ := QC
    obtain ⟨r0, r1, r2, r3, r4⟩ := QP
    exact bodyPost_ret (v := .tuple #[.agg #[.slice none 0 0, .slice none 0 0, .slice none 0 0, .int .i64 0, .slice none 0 0, .int .i64 0, .slice none 0 0, .bool false], .agg #[.int .i64 0, .int .i64 0, .int .i64 0, .int .i64 0, .int .i64 0], .bool false]) (by simp [results, Try.f23, go_sem, q0, q1, q2, q3, q4, q5, q6, q7, r0, r1, r2, r3, r4]) rfl ⟨SA.none, rfl, own_none _ _ _, BE⟩
  · obtain ⟨e1, e2, e3⟩ := write_yes (⟨hok, hb, hl, by rw [hrw]; omega⟩ : writeOk s t lv) hrw
    rw [e1, e2, e3]
    have hY := fun r p q ya yr yl yg yd base top yG yD W htop hO => l7write_yes r p q ya yr yl yg yd base top yG yD s t lv W hs hok hb hl htop hO n h8 h64 hrw
    unfold LwYes at hY
    obtain ⟨ws, hws⟩ : ∃ u, u = putSt s n t := ⟨_, rfl⟩
    have htx : (putSt s n t).txg = s.txg := rfl
    simp only [htx] at hY
    rw [← hws] at htx
    simp only [← hws] at hY ⊢
    have HWT := Lib.hid htx
    generalize sumT t.data.toList = z at hY ⊢
    clear hs hA hok hb hl e1 e2 e3 hrw htx hws h8 h64 hlast
    go_enter Try.func23, Try.ntmps23
    go_upto_region 1 with fail
    obtain ⟨W0, hW0⟩ : ∃ W, W = (((w.alloc (.cells #[.slice x.A s.rows.length x.a, .slice x.R s.sp.refs.length x.r, .slice x.L s.sp.last.length x.l, .int .i64 s.txg, .slice x.G s.gone.length x.g, .int .i64 s.keep, .slice x.D s.dead.length x.d, .bool s.same] 28)).alloc (.cells #[.slice none 0 0, .slice none 0 0, .slice none 0 0, .int .i64 0, .slice none 0 0, .int .i64 0, .slice none 0 0, .bool false] 28)).alloc (.cells #[.int .i64 0, .int .i64 0, .int .i64 0, .int .i64 0, .int .i64 0] 45)) := ⟨_, rfl⟩
    rw [← hW0] at a0 p0 c0 B0 sz HOO ⊢
    clear hW0
    replace sz := Nat.le_of_eq sz.symm
    obtain ⟨x0, x1, x2, x3, x4, x5, x6, x7⟩ := a0.cells
    go_wp2_with (go_at_call 17; refine (HOO).mono ?_; rintro r w1 ⟨rfl, hb1⟩; refine Hid.out ?_)
    refine Lib.hid ?_
    clear x0 x1 x2 x3 x4 x5 x6 x7
    have a1 := a0.below hb1
    have p1 := p0.below hb1
    have c1 := c0.below hb1
    have B1 := bel_then B0 hb1
    have s1 := Nat.le_trans sz hb1.size
    obtain ⟨x0, x1, x2, x3, x4, x5, x6, x7⟩ := a1.cells
    go_wp2_with (go_at_call 59; refine (hBk _).mono ?_; rintro r w2 ⟨rfl, hb2⟩; refine Hid.out ?_)
    refine Lib.hid ?_
    clear x0 x1 x2 x3 x4 x5 x6 x7
    have a2 := a1.below hb2
    have p2 := p1.below hb2
    have c2 := c1.below hb2
    have B2 := bel_then B1 hb2
    have s2 := Nat.le_trans s1 hb2.size
    obtain ⟨x0, x1, x2, x3, x4, x5, x6, x7⟩ := a2.cells
    go_wp2_with (go_at_call 49; refine (hIn _).mono ?_; rintro r w3 ⟨rfl, hb3⟩; refine Hid.out ?_)
    refine Lib.hid ?_
    clear x0 x1 x2 x3 x4 x5 x6 x7
    have a3 := a2.below hb3
    have p3 := p2.below hb3
    have c3 := c2.below hb3
    have B3 := bel_then B2 hb3
    have s3 := Nat.le_trans s2 hb3.size
    obtain ⟨x0, x1, x2, x3, x4, x5, x6, x7⟩ := a3.cells
    have L := hcp _ B3
    go_wp2_with (go_at_call 61; refine L.mono ?_; rintro rr w4 ⟨y, rfl, O, hb4⟩; refine Hid.out ?_)
    refine Lib.hid ?_
    clear x0 x1 x2 x3 x4 x5 x6 x7 L hcp
    obtain ⟨yA, ya, yR, yr, yL, yl, yG, yg, yD, yd⟩ := y
    obtain ⟨r, e1⟩ := own_addr (O.row 0 (by decide : 0 < 5)) hz1
    obtain ⟨p, e2⟩ := own_addr (O.row 1 (by decide : 1 < 5)) hz2
    obtain ⟨q, e3⟩ := own_addr (O.row 2 (by decide : 2 < 5)) hz3
    dsimp only at e1 e2 e3 ⊢
    subst e1 e2 e3
    have p4 := p3.below hb4
    have c4 := c3.below hb4
    have B4 := bel_then B3 hb4
    have s4 := Nat.le_trans s3 hb4.size
    have L := hY r p q ya yr yl yg yd _ _ yG yD w4 (Nat.le_refl _) O
    go_wp2_with (go_at_call 60; refine L.mono ?_; rintro rr w5 ⟨y2, rfl, O5, hb5⟩; refine Hid.out ?_)
    refine Lib.hid ?_
    clear L hY
    have s5 := hb5.size
    have s34 := hb4.size
    have p6 := ((p4.belowB hb5 (by omega)).alloc (.cells #[.slice y2.A ws.rows.length y2.a, .slice y2.R ws.sp.refs.length y2.r, .slice y2.L ws.sp.last.length y2.l, .int .i64 s.txg, .slice y2.G ws.gone.length y2.g, .int .i64 ws.keep, .slice y2.D ws.dead.length y2.d, .bool ws.same] 28)).alloc (.cells #[.int .i64 (n : Int), .int .i64 s.txg, .int .i64 (t.size : Int), .int .i64 z, .int .i64 lv] 45)
    have c6 := ((c4.belowB hb5 (by omega)).alloc (.cells #[.slice y2.A ws.rows.length y2.a, .slice y2.R ws.sp.refs.length y2.r, .slice y2.L ws.sp.last.length y2.l, .int .i64 s.txg, .slice y2.G ws.gone.length y2.g, .int .i64 ws.keep, .slice y2.D ws.dead.length y2.d, .bool ws.same] 28)).alloc (.cells #[.int .i64 (n : Int), .int .i64 s.txg, .int .i64 (t.size : Int), .int .i64 z, .int .i64 lv] 45)
    have B6 := bel_new (bel_new (B4.trans (hb5.mono (by omega))) (.cells #[.slice y2.A ws.rows.length y2.a, .slice y2.R ws.sp.refs.length y2.r, .slice y2.L ws.sp.last.length y2.l, .int .i64 s.txg, .slice y2.G ws.gone.length y2.g, .int .i64 ws.keep, .slice y2.D ws.dead.length y2.d, .bool ws.same] 28)) (.cells #[.int .i64 (n : Int), .int .i64 s.txg, .int .i64 (t.size : Int), .int .i64 z, .int .i64 lv] 45)
    have d6 := (B8.new w5 28 (.slice y2.A ws.rows.length y2.a) (.slice y2.R ws.sp.refs.length y2.r) (.slice y2.L ws.sp.last.length y2.l) (.int .i64 s.txg) (.slice y2.G ws.gone.length y2.g) (.int .i64 ws.keep) (.slice y2.D ws.dead.length y2.d) (.bool ws.same)).alloc (.cells #[.int .i64 (n : Int), .int .i64 s.txg, .int .i64 (t.size : Int), .int .i64 z, .int .i64 lv] 45)
    have q6 := V5.new (w5.alloc (.cells #[.slice y2.A ws.rows.length y2.a, .slice y2.R ws.sp.refs.length y2.r, .slice y2.L ws.sp.last.length y2.l, .int .i64 s.txg, .slice y2.G ws.gone.length y2.g, .int .i64 ws.keep, .slice y2.D ws.dead.length y2.d, .bool ws.same] 28)) (n : Int) s.txg (t.size : Int) z lv
    rw [World.size_alloc] at q6
    have O6 := (O5.alloc (.cells #[.slice y2.A ws.rows.length y2.a, .slice y2.R ws.sp.refs.length y2.r, .slice y2.L ws.sp.last.length y2.l, .int .i64 s.txg, .slice y2.G ws.gone.length y2.g, .int .i64 ws.keep, .slice y2.D ws.dead.length y2.d, .bool ws.same] 28)).alloc (.cells #[.int .i64 (n : Int), .int .i64 s.txg, .int .i64 (t.size : Int), .int .i64 z, .int .i64 lv] 45)
    have hl1 : w.heap.size + 1 < w5.heap.size := by omega
    have hl2 : w.heap.size + 1 + 1 < w5.heap.size := by omega
    clear p4 c4 B4 O hb5 p3 c3 B3 hb4 O5
    go_upto_region 6 with fail
    generalize (w5.alloc (.cells #[.slice y2.A ws.rows.length y2.a, .slice y2.R ws.sp.refs.length y2.r, .slice y2.L ws.sp.last.length y2.l, .int .i64 s.txg, .slice y2.G ws.gone.length y2.g, .int .i64 ws.keep, .slice y2.D ws.dead.length y2.d, .bool ws.same] 28)).alloc (.cells #[.int .i64 (n : Int), .int .i64 s.txg, .int .i64 (t.size : Int), .int .i64 z, .int .i64 lv] 45) = w6 at p6 c6 B6 d6 q6 O6 ⊢
    obtain ⟨x0, x1, x2, x3, x4, x5, x6, x7⟩ := d6.cells
    obtain ⟨k0, k1, k2, k3, k4⟩ := q6.cells
    obtain ⟨z0, z1, z2, z3, z4, z5, z6, z7⟩ := c6.cells
    obtain ⟨f0, f1, f2, f3, f4, f5, f6, f7⟩ := c6.fro
    obtain ⟨v0, v1, v2, v3, v4⟩ := p6.cells
    obtain ⟨g0, g1, g2, g3, g4⟩ := p6.fro
    go_region
    all_goals go_wp2_with fail
    all_goals (
      clear z0 z1 z2 z3 z4 z5 z6 z7 f0 f1 f2 f3 f4 f5 f6 f7 v0 v1 v2 v3 v4 g0 g1 g2 g3 g4
      have OG := (put5_own (P := w.heap.size + 1 + 1) (u0 := (n : Int)) (u1 := s.txg) (u2 := (t.size : Int)) (u3 := z) (u4 := lv) (set8_own (H := w.heap.size + 1) (u0 := .slice y2.A ws.rows.length y2.a) (u1 := .slice y2.R ws.sp.refs.length y2.r) (u2 := .slice y2.L ws.sp.last.length y2.l) (u3 := .int .i64 s.txg) (u4 := .slice y2.G ws.gone.length y2.g) (u5 := .int .i64 ws.keep) (u6 := .slice y2.D ws.dead.length y2.d) (u7 := .bool ws.same) O6 (by omega)) (by omega)).at_top.base (base' := w.heap.size) (by omega)
      have OG := own_drew_top OG
      have QC := (put5_far (P := w.heap.size + 1 + 1) (u0 := (n : Int)) (u1 := s.txg) (u2 := (t.size : Int)) (u3 := z) (u4 := lv) (set8_box (H := w.heap.size + 1) (u0 := .slice y2.A ws.rows.length y2.a) (u1 := .slice y2.R ws.sp.refs.length y2.r) (u2 := .slice y2.L ws.sp.last.length y2.l) (u3 := .int .i64 s.txg) (u4 := .slice y2.G ws.gone.length y2.g) (u5 := .int .i64 ws.keep) (u6 := .slice y2.D ws.dead.length y2.d) (u7 := .bool ws.same) c6) (by omega)).drew.cells
      have QP := (V5.put (u0 := (n : Int)) (u1 := s.txg) (u2 := (t.size : Int)) (u3 := z) (u4 := lv) (v5_far8 (H := w.heap.size + 1) (u0 := .slice y2.A ws.rows.length y2.a) (u1 := .slice y2.R ws.sp.refs.length y2.r) (u2 := .slice y2.L ws.sp.last.length y2.l) (u3 := .int .i64 s.txg) (u4 := .slice y2.G ws.gone.length y2.g) (u5 := .int .i64 ws.keep) (u6 := .slice y2.D ws.dead.length y2.d) (u7 := .bool ws.same) p6 (by omega))).drew.cells
      have BE := (put5_bel (P := w.heap.size + 1 + 1) (u0 := (n : Int)) (u1 := s.txg) (u2 := (t.size : Int)) (u3 := z) (u4 := lv) (set8_bel (H := w.heap.size + 1) (u0 := .slice y2.A ws.rows.length y2.a) (u1 := .slice y2.R ws.sp.refs.length y2.r) (u2 := .slice y2.L ws.sp.last.length y2.l) (u3 := .int .i64 s.txg) (u4 := .slice y2.G ws.gone.length y2.g) (u5 := .int .i64 ws.keep) (u6 := .slice y2.D ws.dead.length y2.d) (u7 := .bool ws.same) B6 (by omega)) (by omega)).drew
      change bodyPost Try.prog Try.f23 _ Exit.ret _ (((((((((((((((w6.setCell ⟨w.heap.size + 1, 0, none⟩ (.slice y2.A ws.rows.length y2.a)).setCell ⟨w.heap.size + 1, 1, none⟩ (.slice y2.R ws.sp.refs.length y2.r)).setCell ⟨w.heap.size + 1, 2, none⟩ (.slice y2.L ws.sp.last.length y2.l)).setCell ⟨w.heap.size + 1, 3, none⟩ (.int .i64 s.txg)).setCell ⟨w.heap.size + 1, 4, none⟩ (.slice y2.G ws.gone.length y2.g)).setCell ⟨w.heap.size + 1, 5, none⟩ (.int .i64 ws.keep)).setCell ⟨w.heap.size + 1, 6, none⟩ (.slice y2.D ws.dead.length y2.d)).setCell ⟨w.heap.size + 1, 7, none⟩ (.bool ws.same)).setCell ⟨w.heap.size + 1 + 1, 0, none⟩ (.int .i64 (n : Int))).setCell ⟨w.heap.size + 1 + 1, 1, none⟩ (.int .i64 s.txg)).setCell ⟨w.heap.size + 1 + 1, 2, none⟩ (.int .i64 (t.size : Int))).setCell ⟨w.heap.size + 1 + 1, 3, none⟩ (.int .i64 z)).setCell ⟨w.heap.size + 1 + 1, 4, none⟩ (.int .i64 lv))).drew)
      generalize ((((((((((((((w6.setCell ⟨w.heap.size + 1, 0, none⟩ (.slice y2.A ws.rows.length y2.a)).setCell ⟨w.heap.size + 1, 1, none⟩ (.slice y2.R ws.sp.refs.length y2.r)).setCell ⟨w.heap.size + 1, 2, none⟩ (.slice y2.L ws.sp.last.length y2.l)).setCell ⟨w.heap.size + 1, 3, none⟩ (.int .i64 s.txg)).setCell ⟨w.heap.size + 1, 4, none⟩ (.slice y2.G ws.gone.length y2.g)).setCell ⟨w.heap.size + 1, 5, none⟩ (.int .i64 ws.keep)).setCell ⟨w.heap.size + 1, 6, none⟩ (.slice y2.D ws.dead.length y2.d)).setCell ⟨w.heap.size + 1, 7, none⟩ (.bool ws.same)).setCell ⟨w.heap.size + 1 + 1, 0, none⟩ (.int .i64 (n : Int))).setCell ⟨w.heap.size + 1 + 1, 1, none⟩ (.int .i64 s.txg)).setCell ⟨w.heap.size + 1 + 1, 2, none⟩ (.int .i64 (t.size : Int))).setCell ⟨w.heap.size + 1 + 1, 3, none⟩ (.int .i64 z)).setCell ⟨w.heap.size + 1 + 1, 4, none⟩ (.int .i64 lv))).drew = WF at OG QC QP BE ⊢
      obtain ⟨q0, q1, q2, q3, q4, q5, q6, q7⟩ := QC
      obtain ⟨r0, r1, r2, r3, r4⟩ := QP
      exact bodyPost_ret (v := .tuple #[.agg #[.slice y2.A ws.rows.length y2.a, .slice y2.R ws.sp.refs.length y2.r, .slice y2.L ws.sp.last.length y2.l, .int .i64 s.txg, .slice y2.G ws.gone.length y2.g, .int .i64 ws.keep, .slice y2.D ws.dead.length y2.d, .bool ws.same], .agg #[.int .i64 (n : Int), .int .i64 s.txg, .int .i64 (t.size : Int), .int .i64 z, .int .i64 lv], .bool true]) (by simp [results, Try.f23, go_sem, q0, q1, q2, q3, q4, q5, q6, q7, r0, r1, r2, r3, r4]) rfl ⟨y2, by rw [HWT.out], OG, BE⟩)
end Go.Proofs.Ytmnamclndpfjnaa
