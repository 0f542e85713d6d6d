/-
  A block is written, as the program does it.
-/
import Derived.Test.YtmnamclndpfjnaaPtW
import Derived.Test.YtmnamclndpfjnaaCpi
import Derived.Test.YtmnamclndpfjnaaImB
namespace Go.Proofs.Ytmnamclndpfjnaa
open Go.RowKit

def writeS (s : St) (t : ByteArray) (lv : Int) : St := if writeOk s t lv then putSt s (rowW s t lv).toNat t else noSt
def writeP (s : St) (t : ByteArray) (lv : Int) : P5 := if writeOk s t lv then ⟨rowW s t lv, s.txg, (t.size : Int), sumT t.data.toList, lv⟩ else P5.zero
def writeF (s : St) (t : ByteArray) (lv : Int) : Bool := decide (writeOk s t lv)
theorem write_yes {s : St} {t : ByteArray} {lv : Int} {n : Nat} (h : writeOk s t lv) (hn : rowW s t lv = (n : Int)) : writeS s t lv = putSt s n t ∧ writeP s t lv = ⟨(n : Int), s.txg, (t.size : Int), sumT t.data.toList, lv⟩ ∧ writeF s t lv = true :=
  ⟨by unfold writeS; rw [if_pos h, hn, Int.toNat_natCast], by unfold writeP; rw [if_pos h, hn], decide_eq_true h⟩
theorem write_no {s : St} {t : ByteArray} {lv : Int} (h : ¬ writeOk s t lv) : writeS s t lv = noSt ∧ writeP s t lv = P5.zero ∧ writeF s t lv = false := ⟨if_neg h, if_neg h, decide_eq_false h⟩
/-- The texts' row and the pointers' of a copy, and a space's rows, made behind. -/
theorem own_put_sp {w : World} {base m1 m2 top : Nat} {a b c d e : Rw} (h : Own w base m1 [a, d, e]) (g : Own w m2 top [b, c]) (h1 : m1 ≤ m2) (h2 : base ≤ m2) (h3 : m1 ≤ top) : Own w base top [a, b, c, d, e] :=
  (h.more g h1 h2 h3).perm (.cons _ (List.perm_append_comm (l₁ := [d, e]) (l₂ := [b, c])))
theorem strSet (xs : List ByteArray) (k : Nat) (b : ByteArray) : (strCells xs).set k (.string b) = strCells (xs.set k b) := by simp [strCells, List.map_set]
theorem own_drew_top {w : World} {base : Nat} {L : List Rw} (h : Own w base w.heap.size L) : Own w.drew base w.drew.heap.size L := h
theorem sub3w (a b c d e : Rw) : [a, d, e].Sublist [a, b, c, d, e] := .cons_cons _ (.cons _ (.cons _ (List.Sublist.refl _)))

section
variable {W w : World} {P H g B base top : Nat} {ty : TypeId} {u0 u1 u2 u3 u4 a b c d e : Int} {v0 v1 v2 v3 v4 v5 v6 v7 x0 x1 x2 x3 x4 x5 x6 x7 : Value} {L : List Rw}
theorem put5_far (h : B8 W g ty x0 x1 x2 x3 x4 x5 x6 x7) (hg : g ≠ P) : B8 (((((W.setCell ⟨P, 0, none⟩ (.int .i64 u0)).setCell ⟨P, 1, none⟩ (.int .i64 u1)).setCell ⟨P, 2, none⟩ (.int .i64 u2)).setCell ⟨P, 3, none⟩ (.int .i64 u3)).setCell ⟨P, 4, none⟩ (.int .i64 u4)) g ty x0 x1 x2 x3 x4 x5 x6 x7 := ((((h.set hg _).set hg _).set hg _).set hg _).set hg _
theorem v5_far8 {u0 u1 u2 u3 u4 u5 u6 u7 : Value} (h : V5 W g a b c d e) (hg : g ≠ H) : V5 ((((((((W.setCell ⟨H, 0, none⟩ u0).setCell ⟨H, 1, none⟩ u1).setCell ⟨H, 2, none⟩ u2).setCell ⟨H, 3, none⟩ u3).setCell ⟨H, 4, none⟩ u4).setCell ⟨H, 5, none⟩ u5).setCell ⟨H, 6, none⟩ u6).setCell ⟨H, 7, none⟩ u7) g a b c d e := (((((((h.set hg _).set hg _).set hg _).set hg _).set hg _).set hg _).set hg _).set hg _
theorem put5_bel (h : Below B w W) (hP : B ≤ P) : Below B w (((((W.setCell ⟨P, 0, none⟩ (.int .i64 u0)).setCell ⟨P, 1, none⟩ (.int .i64 u1)).setCell ⟨P, 2, none⟩ (.int .i64 u2)).setCell ⟨P, 3, none⟩ (.int .i64 u3)).setCell ⟨P, 4, none⟩ (.int .i64 u4)) := ((((h.setCell hP _).setCell hP _).setCell hP _).setCell hP _).setCell hP _
theorem put5_own (h : Own W base top L) (hP : P < base) : Own (((((W.setCell ⟨P, 0, none⟩ (.int .i64 u0)).setCell ⟨P, 1, none⟩ (.int .i64 u1)).setCell ⟨P, 2, none⟩ (.int .i64 u2)).setCell ⟨P, 3, none⟩ (.int .i64 u3)).setCell ⟨P, 4, none⟩ (.int .i64 u4)) base top L := ((((h.set hP _).set hP _).set hP _).set hP _).set hP _
end
set_option maxRecDepth 100000 in
set_option maxHeartbeats 8000000 in
theorem impl_written (x : SA) (s : St) (t : ByteArray) (lv : Int) (w : World) (hs : SBulk s) (hok : StOk s) (hb : blockB t) (hl : 0 ≤ lv ∧ lv ≤ 2) (hA : StAt w x s) :
    Calls Try.prog 64 #[(.agg #[.slice x.A s.rows.length x.a, .slice x.R s.sp.refs.length x.r, .slice x.L s.sp.last.length x.l, .int .i64 s.txg, .slice x.G s.gone.length x.g, .int .i64 s.keep, .slice x.D s.dead.length x.d, .bool s.same]), .string t, .int .i64 lv] w (TPost3 (writeS s t lv) (writeP s t lv) (writeF s t lv) w) := by
  have a0 := ((B8.new w 28 (.slice x.A s.rows.length x.a) (.slice x.R s.sp.refs.length x.r) (.slice x.L s.sp.last.length x.l) (.int .i64 s.txg) (.slice x.G s.gone.length x.g) (.int .i64 s.keep) (.slice x.D s.dead.length x.d) (.bool s.same)).alloc (.cells #[.slice none 0 0, .slice none 0 0, .slice none 0 0, .int .i64 0, .slice none 0 0, .int .i64 0, .slice none 0 0, .bool false] 28)).alloc (.cells #[.int .i64 0, .int .i64 0, .int .i64 0, .int .i64 0, .int .i64 0] 45)
  have c0 := (B8.new (w.alloc (.cells #[.slice x.A s.rows.length x.a, .slice x.R s.sp.refs.length x.r, .slice x.L s.sp.last.length x.l, .int .i64 s.txg, .slice x.G s.gone.length x.g, .int .i64 s.keep, .slice x.D s.dead.length x.d, .bool s.same] 28)) 28 (.slice none 0 0) (.slice none 0 0) (.slice none 0 0) (.int .i64 0) (.slice none 0 0) (.int .i64 0) (.slice none 0 0) (.bool false)).alloc (.cells #[.int .i64 0, .int .i64 0, .int .i64 0, .int .i64 0, .int .i64 0] 45)
  have p0 := V5.new ((w.alloc (.cells #[.slice x.A s.rows.length x.a, .slice x.R s.sp.refs.length x.r, .slice x.L s.sp.last.length x.l, .int .i64 s.txg, .slice x.G s.gone.length x.g, .int .i64 s.keep, .slice x.D s.dead.length x.d, .bool s.same] 28)).alloc (.cells #[.slice none 0 0, .slice none 0 0, .slice none 0 0, .int .i64 0, .slice none 0 0, .int .i64 0, .slice none 0 0, .bool false] 28)) 0 0 0 0 0
  rw [World.size_alloc] at c0
  rw [World.size_alloc, World.size_alloc] at p0
  have B0 := bel_new (bel_new (bel_new (Below.refl w.heap.size w) (.cells #[.slice x.A s.rows.length x.a, .slice x.R s.sp.refs.length x.r, .slice x.L s.sp.last.length x.l, .int .i64 s.txg, .slice x.G s.gone.length x.g, .int .i64 s.keep, .slice x.D s.dead.length x.d, .bool s.same] 28)) (.cells #[.slice none 0 0, .slice none 0 0, .slice none 0 0, .int .i64 0, .slice none 0 0, .int .i64 0, .slice none 0 0, .bool false] 28)) (.cells #[.int .i64 0, .int .i64 0, .int .i64 0, .int .i64 0, .int .i64 0] 45)
  have sz : (((w.alloc (.cells #[.slice x.A s.rows.length x.a, .slice x.R s.sp.refs.length x.r, .slice x.L s.sp.last.length x.l, .int .i64 s.txg, .slice x.G s.gone.length x.g, .int .i64 s.keep, .slice x.D s.dead.length x.d, .bool s.same] 28)).alloc (.cells #[.slice none 0 0, .slice none 0 0, .slice none 0 0, .int .i64 0, .slice none 0 0, .int .i64 0, .slice none 0 0, .bool false] 28)).alloc (.cells #[.int .i64 0, .int .i64 0, .int .i64 0, .int .i64 0, .int .i64 0] 45)).heap.size = w.heap.size + 1 + 1 + 1 := by rw [World.size_alloc, World.size_alloc, World.size_alloc]
  have hR := impl_rowfor x s t lv _ hs hok hb (hA.below B0)
  have hcp := fun W (hW : Below w.heap.size w W) => impl_copied x s W hs.rows hs.refs hs.last hs.gone hs.dead (hA.below hW)
  unfold TPost at hcp
  have hwo : writeOk s t lv ↔ 0 ≤ rowW s t lv := ⟨fun h => h.2.2.2, fun h => ⟨hok, hb, hl, h⟩⟩
  rcases row_range hok t lv with hrw | ⟨n, hrw, h8, h64, hlast⟩
  · obtain ⟨e1, e2, e3⟩ := write_no (fun h => by have := hwo.1 h; omega)
    rw [e1, e2, e3]
    rw [hrw] at hR
    clear hs hok hb hl hA hcp hwo hrw e1 e2 e3
    go_enter Try.func64, Try.ntmps64
    go_upto_region 1 with fail
    obtain ⟨W0, hW0⟩ : ∃ W, W = (((w.alloc (.cells #[.slice x.A s.rows.length x.a, .slice x.R s.sp.refs.length x.r, .slice x.L s.sp.last.length x.l, .int .i64 s.txg, .slice x.G s.gone.length x.g, .int .i64 s.keep, .slice x.D s.dead.length x.d, .bool s.same] 28)).alloc (.cells #[.slice none 0 0, .slice none 0 0, .slice none 0 0, .int .i64 0, .slice none 0 0, .int .i64 0, .slice none 0 0, .bool false] 28)).alloc (.cells #[.int .i64 0, .int .i64 0, .int .i64 0, .int .i64 0, .int .i64 0] 45)) := ⟨_, rfl⟩
    rw [← hW0] at a0 p0 c0 B0 sz hR ⊢
    clear hW0
    replace sz := Nat.le_of_eq sz.symm
    obtain ⟨x0, x1, x2, x3, x4, x5, x6, x7⟩ := a0.cells
    go_wp2_with (go_at_call 97; refine hR.mono ?_; rintro r w1 ⟨rfl, hb1⟩; refine Hid.out ?_)
    refine Lib.hid ?_
    clear x0 x1 x2 x3 x4 x5 x6 x7 hR
    have a1 := a0.below hb1
    have p1 := p0.below hb1
    have c1 := c0.below hb1
    have B1 := bel_then B0 hb1
    have s1 := Nat.le_trans sz hb1.size
    obtain ⟨z0, z1, z2, z3, z4, z5, z6, z7⟩ := c1.cells
    obtain ⟨f0, f1, f2, f3, f4, f5, f6, f7⟩ := c1.fro
    obtain ⟨v0, v1, v2, v3, v4⟩ := p1.cells
    obtain ⟨g0, g1, g2, g3, g4⟩ := p1.fro
    go_wp2_with fail
    clear z0 z1 z2 z3 z4 z5 z6 z7 f0 f1 f2 f3 f4 f5 f6 f7 v0 v1 v2 v3 v4 g0 g1 g2 g3 g4
    have QC := (put5_far (P := w.heap.size + 1 + 1) (u0 := 0) (u1 := 0) (u2 := 0) (u3 := 0) (u4 := 0) (set8_box (H := w.heap.size + 1) (u0 := .slice none 0 0) (u1 := .slice none 0 0) (u2 := .slice none 0 0) (u3 := .int .i64 0) (u4 := .slice none 0 0) (u5 := .int .i64 0) (u6 := .slice none 0 0) (u7 := .bool false) c1) (by omega)).cells
    have QP := (V5.put (u0 := 0) (u1 := 0) (u2 := 0) (u3 := 0) (u4 := 0) (v5_far8 (H := w.heap.size + 1) (u0 := .slice none 0 0) (u1 := .slice none 0 0) (u2 := .slice none 0 0) (u3 := .int .i64 0) (u4 := .slice none 0 0) (u5 := .int .i64 0) (u6 := .slice none 0 0) (u7 := .bool false) p1 (by omega))).cells
    have BE := (put5_bel (P := w.heap.size + 1 + 1) (u0 := 0) (u1 := 0) (u2 := 0) (u3 := 0) (u4 := 0) (set8_bel (H := w.heap.size + 1) (u0 := .slice none 0 0) (u1 := .slice none 0 0) (u2 := .slice none 0 0) (u3 := .int .i64 0) (u4 := .slice none 0 0) (u5 := .int .i64 0) (u6 := .slice none 0 0) (u7 := .bool false) B1 (by omega)) (by omega))
    change bodyPost Try.prog Try.f64 _ Exit.ret _ ((((((((((((((w1.setCell ⟨w.heap.size + 1, 0, none⟩ (.slice none 0 0)).setCell ⟨w.heap.size + 1, 1, none⟩ (.slice none 0 0)).setCell ⟨w.heap.size + 1, 2, none⟩ (.slice none 0 0)).setCell ⟨w.heap.size + 1, 3, none⟩ (.int .i64 0)).setCell ⟨w.heap.size + 1, 4, none⟩ (.slice none 0 0)).setCell ⟨w.heap.size + 1, 5, none⟩ (.int .i64 0)).setCell ⟨w.heap.size + 1, 6, none⟩ (.slice none 0 0)).setCell ⟨w.heap.size + 1, 7, none⟩ (.bool false)).setCell ⟨w.heap.size + 1 + 1, 0, none⟩ (.int .i64 0)).setCell ⟨w.heap.size + 1 + 1, 1, none⟩ (.int .i64 0)).setCell ⟨w.heap.size + 1 + 1, 2, none⟩ (.int .i64 0)).setCell ⟨w.heap.size + 1 + 1, 3, none⟩ (.int .i64 0)).setCell ⟨w.heap.size + 1 + 1, 4, none⟩ (.int .i64 0)))
    generalize (((((((((((((w1.setCell ⟨w.heap.size + 1, 0, none⟩ (.slice none 0 0)).setCell ⟨w.heap.size + 1, 1, none⟩ (.slice none 0 0)).setCell ⟨w.heap.size + 1, 2, none⟩ (.slice none 0 0)).setCell ⟨w.heap.size + 1, 3, none⟩ (.int .i64 0)).setCell ⟨w.heap.size + 1, 4, none⟩ (.slice none 0 0)).setCell ⟨w.heap.size + 1, 5, none⟩ (.int .i64 0)).setCell ⟨w.heap.size + 1, 6, none⟩ (.slice none 0 0)).setCell ⟨w.heap.size + 1, 7, none⟩ (.bool false)).setCell ⟨w.heap.size + 1 + 1, 0, none⟩ (.int .i64 0)).setCell ⟨w.heap.size + 1 + 1, 1, none⟩ (.int .i64 0)).setCell ⟨w.heap.size + 1 + 1, 2, none⟩ (.int .i64 0)).setCell ⟨w.heap.size + 1 + 1, 3, none⟩ (.int .i64 0)).setCell ⟨w.heap.size + 1 + 1, 4, none⟩ (.int .i64 0)) = WF at QC QP BE ⊢
    obtain ⟨q0, q1, q2, q3, q4, q5, q6, q7⟩ := QC
    obtain ⟨r0, r1, r2, r3, r4⟩ := QP
    exact bodyPost_ret (v := .tuple #[.agg #[.slice none 0 0, .slice none 0 0, .slice none 0 0, .int .i64 0, .slice none 0 0, .int .i64 0, .slice none 0 0, .bool false], .agg #[.int .i64 0, .int .i64 0, .int .i64 0, .int .i64 0, .int .i64 0], .bool false]) (by simp [results, Try.f64, go_sem, q0, q1, q2, q3, q4, q5, q6, q7, r0, r1, r2, r3, r4]) rfl ⟨SA.none, rfl, own_none _ _ _, BE⟩
  · have hwk := hwo.2 (by rw [hrw]; omega)
    obtain ⟨e1, e2, e3⟩ := write_yes hwk hrw
    rw [e1, e2, e3]
    rw [hrw] at hR
    have hT := fun W (hW : Below w.heap.size w W) => impl_take x.R x.L x.r x.l s.sp (n : Int) s.txg W (WalkArith.wf_i64 (by omega)) hs.refs hs.last (hA.sp.below hW)
    have hte := take_eq hok h8 h64 hlast
    have hP := fun W => impl_ptrof (n : Int) s.txg lv t W ⟨by omega, by omega⟩ hok.txg hl hb
    have L1 : s.rows.length = 64 := hok.len
    have hn64 : (n : Int) < (s.rows.length : Int) := by rw [L1]; omega
    have hnl : n < s.rows.length := by omega
    have hn1 : ((n : Int) == -1) = false := by simp
    generalize sumT t.data.toList = z at hP ⊢
    have hput : putSt s n t = { s with rows := s.rows.set n t, sp := ⟨s.sp.refs.set n (s.sp.refs.getD n 0 + 1), s.sp.last.set n s.txg⟩ } := rfl
    obtain ⟨sp, hsp⟩ : ∃ q, q = (⟨s.sp.refs.set n (s.sp.refs.getD n 0 + 1), s.sp.last.set n s.txg⟩ : Sp) := ⟨_, rfl⟩
    rw [← hsp] at hput hte
    rw [hte] at hT
    unfold SPost2 at hT
    simp only at hT
    rw [hput]
    have HL := Lib.hid L1
    clear hs hok hb hl hA hwo hwk hrw e1 e2 e3 hput hsp hte h8 h64 hlast L1
    go_enter Try.func64, Try.ntmps64
    go_upto_region 1 with fail
    obtain ⟨W0, hW0⟩ : ∃ W, W = (((w.alloc (.cells #[.slice x.A s.rows.length x.a, .slice x.R s.sp.refs.length x.r, .slice x.L s.sp.last.length x.l, .int .i64 s.txg, .slice x.G s.gone.length x.g, .int .i64 s.keep, .slice x.D s.dead.length x.d, .bool s.same] 28)).alloc (.cells #[.slice none 0 0, .slice none 0 0, .slice none 0 0, .int .i64 0, .slice none 0 0, .int .i64 0, .slice none 0 0, .bool false] 28)).alloc (.cells #[.int .i64 0, .int .i64 0, .int .i64 0, .int .i64 0, .int .i64 0] 45)) := ⟨_, rfl⟩
    rw [← hW0] at a0 p0 c0 B0 sz hR ⊢
    clear hW0
    replace sz := Nat.le_of_eq sz.symm
    obtain ⟨x0, x1, x2, x3, x4, x5, x6, x7⟩ := a0.cells
    go_wp2_with (go_at_call 97; refine hR.mono ?_; rintro r w1 ⟨rfl, hb1⟩; refine Hid.out ?_)
    refine Lib.hid ?_
    clear x0 x1 x2 x3 x4 x5 x6 x7 hR
    have a1 := a0.below hb1
    have p1 := p0.below hb1
    have c1 := c0.below hb1
    have B1 := bel_then B0 hb1
    have s1 := Nat.le_trans sz hb1.size
    obtain ⟨x0, x1, x2, x3, x4, x5, x6, x7⟩ := a1.cells
    have L := hcp _ B1
    go_wp2_with (go_at_call 98; refine L.mono ?_; rintro rr w2 ⟨y, rfl, O, hb2⟩; refine Hid.out ?_)
    refine Lib.hid ?_
    clear x0 x1 x2 x3 x4 x5 x6 x7 hcp L
    have a2 := a1.below hb2
    have p2 := p1.below hb2
    have c2 := c1.below hb2
    have B2 := bel_then B1 hb2
    have s2 := Nat.le_trans s1 hb2.size
    obtain ⟨yA, ya, yR, yr, yL, yl, yG, yg, yD, yd⟩ := y
    obtain ⟨r, e1⟩ := own_addr (O.row 0 (by decide : 0 < 5)) (by show 0 < s.rows.length; omega)
    dsimp only at e1 ⊢
    subst e1
    have hrr := (O.row 0 (by decide : 0 < 5)).lt r rfl
    have hrow := O.row 0 (by decide : 0 < 5)
    have fr := hrow.frozenAt n
    have cr := hrow.cellAt n (by show n < s.rows.length * 1; omega)
    simp only [rows5, List.getElem_cons_zero] at cr
    rw [strCells_at _ n hnl] at cr
    have hm1 : r < w2.heap.size := hrr.2
    have hm2 : w.heap.size < w2.heap.size := by omega
    have hm3 : w.heap.size + 1 < w2.heap.size := by omega
    have hm4 : w.heap.size + 1 + 1 < w2.heap.size := by omega
    go_upto_region 6 with fail
    have st := (hrow.stored n (.string t)).1
    have O3 := ((O.sub (sub3w _ _ _ _ _)).put 0 (by decide : 0 < 3) (r := ⟨9, 1, (s.rows.set n t).length, .slice (some ⟨r, 0, none⟩) (s.rows.set n t).length ya, strCells (s.rows.set n t)⟩) rfl (grown_set _ ⟨r, n, none⟩ (.string t)) (by simp only [rows5, List.getElem_cons_zero] at st; simp only [List.length_set]; rw [← strSet]; exact st)).alloc (.cells #[.slice (some ⟨r, 0, none⟩) s.rows.length ya, .slice yR s.sp.refs.length yr, .slice yL s.sp.last.length yl, .int .i64 s.txg, .slice yG s.gone.length yg, .int .i64 s.keep, .slice yD s.dead.length yd, .bool s.same] 28)
    have d3 : B8 ((w2.setCell ⟨r, n, none⟩ (.string t)).alloc (.cells #[.slice (some ⟨r, 0, none⟩) s.rows.length ya, .slice yR s.sp.refs.length yr, .slice yL s.sp.last.length yl, .int .i64 s.txg, .slice yG s.gone.length yg, .int .i64 s.keep, .slice yD s.dead.length yd, .bool s.same] 28)) w2.heap.size 28 (.slice (some ⟨r, 0, none⟩) s.rows.length ya) (.slice yR s.sp.refs.length yr) (.slice yL s.sp.last.length yl) (.int .i64 s.txg) (.slice yG s.gone.length yg) (.int .i64 s.keep) (.slice yD s.dead.length yd) (.bool s.same) := by
      have := B8.new (w2.setCell ⟨r, n, none⟩ (.string t)) 28 (.slice (some ⟨r, 0, none⟩) s.rows.length ya) (.slice yR s.sp.refs.length yr) (.slice yL s.sp.last.length yl) (.int .i64 s.txg) (.slice yG s.gone.length yg) (.int .i64 s.keep) (.slice yD s.dead.length yd) (.bool s.same)
      rwa [size_set] at this
    have a3 := (a2.set (p := ⟨r, n, none⟩) (by show w.heap.size ≠ r; omega) (.string t)).alloc (.cells #[.slice (some ⟨r, 0, none⟩) s.rows.length ya, .slice yR s.sp.refs.length yr, .slice yL s.sp.last.length yl, .int .i64 s.txg, .slice yG s.gone.length yg, .int .i64 s.keep, .slice yD s.dead.length yd, .bool s.same] 28)
    have c3 := (c2.set (p := ⟨r, n, none⟩) (by show w.heap.size + 1 ≠ r; omega) (.string t)).alloc (.cells #[.slice (some ⟨r, 0, none⟩) s.rows.length ya, .slice yR s.sp.refs.length yr, .slice yL s.sp.last.length yl, .int .i64 s.txg, .slice yG s.gone.length yg, .int .i64 s.keep, .slice yD s.dead.length yd, .bool s.same] 28)
    have p3 := (p2.set (p := ⟨r, n, none⟩) (by show w.heap.size + 1 + 1 ≠ r; omega) (.string t)).alloc (.cells #[.slice (some ⟨r, 0, none⟩) s.rows.length ya, .slice yR s.sp.refs.length yr, .slice yL s.sp.last.length yl, .int .i64 s.txg, .slice yG s.gone.length yg, .int .i64 s.keep, .slice yD s.dead.length yd, .bool s.same] 28)
    have B3 := bel_new (B2.setCell (p := ⟨r, n, none⟩) (by show w.heap.size ≤ r; omega) (.string t)) (.cells #[.slice (some ⟨r, 0, none⟩) s.rows.length ya, .slice yR s.sp.refs.length yr, .slice yL s.sp.last.length yl, .int .i64 s.txg, .slice yG s.gone.length yg, .int .i64 s.keep, .slice yD s.dead.length yd, .bool s.same] 28)
    have s3 : ((w2.setCell ⟨r, n, none⟩ (.string t)).alloc (.cells #[.slice (some ⟨r, 0, none⟩) s.rows.length ya, .slice yR s.sp.refs.length yr, .slice yL s.sp.last.length yl, .int .i64 s.txg, .slice yG s.gone.length yg, .int .i64 s.keep, .slice yD s.dead.length yd, .bool s.same] 28)).heap.size = w2.heap.size + 1 := by rw [World.size_alloc, size_set]
    have s12 := hb2.size
    generalize (w2.setCell ⟨r, n, none⟩ (.string t)).alloc (.cells #[.slice (some ⟨r, 0, none⟩) s.rows.length ya, .slice yR s.sp.refs.length yr, .slice yL s.sp.last.length yl, .int .i64 s.txg, .slice yG s.gone.length yg, .int .i64 s.keep, .slice yD s.dead.length yd, .bool s.same] 28) = W3 at O3 d3 a3 c3 p3 B3 s3 ⊢
    clear a2 c2 p2 B2 O hrow fr cr st hb2
    obtain ⟨x0, x1, x2, x3, x4, x5, x6, x7⟩ := a3.cells
    have L := hT W3 B3
    go_wp2_with (go_at_call 99; refine L.mono ?_; rintro rr w4 ⟨A4, c4, B4, e4, rfl, ho, hb4⟩; refine Hid.out ?_)
    refine Lib.hid ?_
    clear x0 x1 x2 x3 x4 x5 x6 x7 L hT
    have s4 := hb4.size
    have S4 := ho.two
    have O4 := O3.below hb4
    have d4 := d3.below hb4
    have a4 := a3.below hb4
    have c4' := c3.below hb4
    have p4 := p3.below hb4
    have Bw4 := bel_then B3 hb4
    clear O3 d3 a3 c3 p3 B3 ho hb4
    obtain ⟨y0, y1, y2, y3, y4, y5, y6, y7⟩ := d4.cells
    obtain ⟨g0, g1, g2, g3, g4, g5, g6, g7⟩ := d4.fro
    go_upto_region 7 with fail
    have O5 := (O4.setA (a := ⟨w2.heap.size, 1, none⟩) (Nat.le_refl _) (.slice A4 sp.refs.length c4)).setA (a := ⟨w2.heap.size, 2, none⟩) (Nat.le_refl _) (.slice B4 sp.last.length e4)
    have S5 := (S4.set (p := ⟨w2.heap.size, 1, none⟩) (by show w2.heap.size < _; omega) (.slice A4 sp.refs.length c4)).set (p := ⟨w2.heap.size, 2, none⟩) (by show w2.heap.size < _; omega) (.slice B4 sp.last.length e4)
    have d5 := (d4.put1 (.slice A4 sp.refs.length c4)).put2 (.slice B4 sp.last.length e4)
    have a5 := (a4.set (p := ⟨w2.heap.size, 1, none⟩) (by show w.heap.size ≠ w2.heap.size; omega) (.slice A4 sp.refs.length c4)).set (p := ⟨w2.heap.size, 2, none⟩) (by show w.heap.size ≠ w2.heap.size; omega) (.slice B4 sp.last.length e4)
    have c5 := (c4'.set (p := ⟨w2.heap.size, 1, none⟩) (by show w.heap.size + 1 ≠ w2.heap.size; omega) (.slice A4 sp.refs.length c4)).set (p := ⟨w2.heap.size, 2, none⟩) (by show w.heap.size + 1 ≠ w2.heap.size; omega) (.slice B4 sp.last.length e4)
    have p5 := (p4.set (p := ⟨w2.heap.size, 1, none⟩) (by show w.heap.size + 1 + 1 ≠ w2.heap.size; omega) (.slice A4 sp.refs.length c4)).set (p := ⟨w2.heap.size, 2, none⟩) (by show w.heap.size + 1 + 1 ≠ w2.heap.size; omega) (.slice B4 sp.last.length e4)
    have Bw5 := (Bw4.setCell (p := ⟨w2.heap.size, 1, none⟩) (by show w.heap.size ≤ w2.heap.size; omega) (.slice A4 sp.refs.length c4)).setCell (p := ⟨w2.heap.size, 2, none⟩) (by show w.heap.size ≤ w2.heap.size; omega) (.slice B4 sp.last.length e4)
    have s5 : ((w4.setCell ⟨w2.heap.size, 1, none⟩ (.slice A4 sp.refs.length c4)).setCell ⟨w2.heap.size, 2, none⟩ (.slice B4 sp.last.length e4)).heap.size = w4.heap.size := by simp only [size_set]
    generalize (w4.setCell ⟨w2.heap.size, 1, none⟩ (.slice A4 sp.refs.length c4)).setCell ⟨w2.heap.size, 2, none⟩ (.slice B4 sp.last.length e4) = W5 at O5 S5 d5 a5 c5 p5 Bw5 s5 ⊢
    clear O4 S4 d4 a4 c4' p4 Bw4 y0 y1 y2 y3 y4 y5 y6 y7 g0 g1 g2 g3 g4 g5 g6 g7
    obtain ⟨x0, x1, x2, x3, x4, x5, x6, x7⟩ := a5.cells
    go_wp2_with (go_at_call 100; refine (hP W5).mono ?_; rintro rr w6 ⟨rfl, hb6⟩; refine Hid.out ?_)
    refine Lib.hid ?_
    clear x0 x1 x2 x3 x4 x5 x6 x7 hP
    have s6 := hb6.size
    have OO := ((own_put_sp O5 S5 (by omega) (by omega) (by omega)).below hb6).alloc (.cells #[.int .i64 (n : Int), .int .i64 s.txg, .int .i64 (t.size : Int), .int .i64 z, .int .i64 lv] 45)
    have d6 := (d5.below hb6).alloc (.cells #[.int .i64 (n : Int), .int .i64 s.txg, .int .i64 (t.size : Int), .int .i64 z, .int .i64 lv] 45)
    have c6 := (c5.below hb6).alloc (.cells #[.int .i64 (n : Int), .int .i64 s.txg, .int .i64 (t.size : Int), .int .i64 z, .int .i64 lv] 45)
    have p6 := (p5.below hb6).alloc (.cells #[.int .i64 (n : Int), .int .i64 s.txg, .int .i64 (t.size : Int), .int .i64 z, .int .i64 lv] 45)
    have q6 := V5.new w6 (n : Int) s.txg (t.size : Int) z lv
    have Bw6 := bel_new (bel_then Bw5 hb6) (.cells #[.int .i64 (n : Int), .int .i64 s.txg, .int .i64 (t.size : Int), .int .i64 z, .int .i64 lv] 45)
    have hm5 : w2.heap.size < w6.heap.size := by omega
    have hm6 : w.heap.size + 1 < w6.heap.size := by omega
    have hm7 : w.heap.size + 1 + 1 < w6.heap.size := by omega
    clear O5 S5 d5 a5 c5 p5 Bw5 hb6
    go_upto_region 8 with fail
    generalize w6.alloc (.cells #[.int .i64 (n : Int), .int .i64 s.txg, .int .i64 (t.size : Int), .int .i64 z, .int .i64 lv] 45) = W7 at OO d6 c6 p6 q6 Bw6 ⊢
    obtain ⟨x0, x1, x2, x3, x4, x5, x6, x7⟩ := d6.cells
    obtain ⟨k0, k1, k2, k3, k4⟩ := q6.cells
    obtain ⟨z0, z1, z2, z3, z4, z5, z6, z7⟩ := c6.cells
    obtain ⟨f0, f1, f2, f3, f4, f5, f6, f7⟩ := c6.fro
    obtain ⟨v0, v1, v2, v3, v4⟩ := p6.cells
    obtain ⟨g0, g1, g2, g3, g4⟩ := p6.fro
    go_region
    all_goals go_wp2_with fail
    all_goals (
      clear z0 z1 z2 z3 z4 z5 z6 z7 f0 f1 f2 f3 f4 f5 f6 f7 v0 v1 v2 v3 v4 g0 g1 g2 g3 g4
      have OG := (put5_own (P := w.heap.size + 1 + 1) (u0 := (n : Int)) (u1 := s.txg) (u2 := (t.size : Int)) (u3 := z) (u4 := lv) (set8_own (H := w.heap.size + 1) (u0 := .slice (some ⟨r, 0, none⟩) s.rows.length ya) (u1 := .slice A4 sp.refs.length c4) (u2 := .slice B4 sp.last.length e4) (u3 := .int .i64 s.txg) (u4 := .slice yG s.gone.length yg) (u5 := .int .i64 s.keep) (u6 := .slice yD s.dead.length yd) (u7 := .bool s.same) OO (by omega)) (by omega)).at_top.base (base' := w.heap.size) (by omega)
      have OG := own_drew_top OG
      have QC := (put5_far (P := w.heap.size + 1 + 1) (u0 := (n : Int)) (u1 := s.txg) (u2 := (t.size : Int)) (u3 := z) (u4 := lv) (set8_box (H := w.heap.size + 1) (u0 := .slice (some ⟨r, 0, none⟩) s.rows.length ya) (u1 := .slice A4 sp.refs.length c4) (u2 := .slice B4 sp.last.length e4) (u3 := .int .i64 s.txg) (u4 := .slice yG s.gone.length yg) (u5 := .int .i64 s.keep) (u6 := .slice yD s.dead.length yd) (u7 := .bool s.same) c6) (by omega)).drew.cells
      have QP := (V5.put (u0 := (n : Int)) (u1 := s.txg) (u2 := (t.size : Int)) (u3 := z) (u4 := lv) (v5_far8 (H := w.heap.size + 1) (u0 := .slice (some ⟨r, 0, none⟩) s.rows.length ya) (u1 := .slice A4 sp.refs.length c4) (u2 := .slice B4 sp.last.length e4) (u3 := .int .i64 s.txg) (u4 := .slice yG s.gone.length yg) (u5 := .int .i64 s.keep) (u6 := .slice yD s.dead.length yd) (u7 := .bool s.same) p6 (by omega))).drew.cells
      have BE := (put5_bel (P := w.heap.size + 1 + 1) (u0 := (n : Int)) (u1 := s.txg) (u2 := (t.size : Int)) (u3 := z) (u4 := lv) (set8_bel (H := w.heap.size + 1) (u0 := .slice (some ⟨r, 0, none⟩) s.rows.length ya) (u1 := .slice A4 sp.refs.length c4) (u2 := .slice B4 sp.last.length e4) (u3 := .int .i64 s.txg) (u4 := .slice yG s.gone.length yg) (u5 := .int .i64 s.keep) (u6 := .slice yD s.dead.length yd) (u7 := .bool s.same) Bw6 (by omega)) (by omega)).drew
      change bodyPost Try.prog Try.f64 _ Exit.ret _ (((((((((((((((W7.setCell ⟨w.heap.size + 1, 0, none⟩ (.slice (some ⟨r, 0, none⟩) s.rows.length ya)).setCell ⟨w.heap.size + 1, 1, none⟩ (.slice A4 sp.refs.length c4)).setCell ⟨w.heap.size + 1, 2, none⟩ (.slice B4 sp.last.length e4)).setCell ⟨w.heap.size + 1, 3, none⟩ (.int .i64 s.txg)).setCell ⟨w.heap.size + 1, 4, none⟩ (.slice yG s.gone.length yg)).setCell ⟨w.heap.size + 1, 5, none⟩ (.int .i64 s.keep)).setCell ⟨w.heap.size + 1, 6, none⟩ (.slice yD s.dead.length yd)).setCell ⟨w.heap.size + 1, 7, none⟩ (.bool s.same)).setCell ⟨w.heap.size + 1 + 1, 0, none⟩ (.int .i64 (n : Int))).setCell ⟨w.heap.size + 1 + 1, 1, none⟩ (.int .i64 s.txg)).setCell ⟨w.heap.size + 1 + 1, 2, none⟩ (.int .i64 (t.size : Int))).setCell ⟨w.heap.size + 1 + 1, 3, none⟩ (.int .i64 z)).setCell ⟨w.heap.size + 1 + 1, 4, none⟩ (.int .i64 lv))).drew)
      generalize ((((((((((((((W7.setCell ⟨w.heap.size + 1, 0, none⟩ (.slice (some ⟨r, 0, none⟩) s.rows.length ya)).setCell ⟨w.heap.size + 1, 1, none⟩ (.slice A4 sp.refs.length c4)).setCell ⟨w.heap.size + 1, 2, none⟩ (.slice B4 sp.last.length e4)).setCell ⟨w.heap.size + 1, 3, none⟩ (.int .i64 s.txg)).setCell ⟨w.heap.size + 1, 4, none⟩ (.slice yG s.gone.length yg)).setCell ⟨w.heap.size + 1, 5, none⟩ (.int .i64 s.keep)).setCell ⟨w.heap.size + 1, 6, none⟩ (.slice yD s.dead.length yd)).setCell ⟨w.heap.size + 1, 7, none⟩ (.bool s.same)).setCell ⟨w.heap.size + 1 + 1, 0, none⟩ (.int .i64 (n : Int))).setCell ⟨w.heap.size + 1 + 1, 1, none⟩ (.int .i64 s.txg)).setCell ⟨w.heap.size + 1 + 1, 2, none⟩ (.int .i64 (t.size : Int))).setCell ⟨w.heap.size + 1 + 1, 3, none⟩ (.int .i64 z)).setCell ⟨w.heap.size + 1 + 1, 4, none⟩ (.int .i64 lv))).drew = WF at OG QC QP BE ⊢
      obtain ⟨q0, q1, q2, q3, q4, q5, q6, q7⟩ := QC
      obtain ⟨r0, r1, r2, r3, r4⟩ := QP
      exact bodyPost_ret (v := .tuple #[.agg #[.slice (some ⟨r, 0, none⟩) s.rows.length ya, .slice A4 sp.refs.length c4, .slice B4 sp.last.length e4, .int .i64 s.txg, .slice yG s.gone.length yg, .int .i64 s.keep, .slice yD s.dead.length yd, .bool s.same], .agg #[.int .i64 (n : Int), .int .i64 s.txg, .int .i64 (t.size : Int), .int .i64 z, .int .i64 lv], .bool true]) (by simp [results, Try.f64, go_sem, q0, q1, q2, q3, q4, q5, q6, q7, r0, r1, r2, r3, r4]) rfl ⟨(⟨some ⟨r, 0, none⟩, ya, A4, c4, B4, e4, yG, yg, yD, yd⟩ : SA), by simp only [List.length_set], OG, BE⟩)
end Go.Proofs.Ytmnamclndpfjnaa
