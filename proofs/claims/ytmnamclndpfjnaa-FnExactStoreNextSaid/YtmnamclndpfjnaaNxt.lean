/-
  The store of the next group, as the specification makes it.
-/
import Derived.Test.YtmnamclndpfjnaaNxs
import Derived.Test.YtmnamclndpfjnaaPOk
import Derived.Test.YtmnamclndpfjnaaLCp
namespace Go.Proofs.Ytmnamclndpfjnaa
open Go.RowKit

theorem nextS_yes {s : St} (h : StOk s ∧ s.txg < 900) : nextS s = nextSt s := if_pos h
theorem nextS_no {s : St} (h : ¬ (StOk s ∧ s.txg < 900)) : nextS s = noSt := if_neg h
theorem nextB_yes {s : St} (h : StOk s ∧ s.txg < 900) : nextB s = true := decide_eq_true h
theorem nextB_no {s : St} (h : ¬ (StOk s ∧ s.txg < 900)) : nextB s = false := decide_eq_false h
/-- A copy's rows that have cells lie at the beginning of a block. -/
theorem five_addr {w : World} {base top : Nat} {x : SA} {s : St} (h : Own w base top (rows5 x s)) (h1 : s.rows.length = 64) (h2 : s.sp.refs.length = 64) (h3 : s.sp.last.length = 64) : ∃ r p q xa xr xl xG xg xD xd, x = ⟨some ⟨r, 0, none⟩, xa, some ⟨p, 0, none⟩, xr, some ⟨q, 0, none⟩, xl, xG, xg, xD, xd⟩ := by
  obtain ⟨yA, xa, yR, xr, yL, xl, xG, xg, xD, xd⟩ := x
  obtain ⟨r, e1⟩ := own_addr (h.row 0 (by decide : 0 < 5)) (by show 0 < s.rows.length; omega)
  obtain ⟨p, e2⟩ := own_addr (h.row 1 (by decide : 1 < 5)) (by show 0 < s.sp.refs.length; omega)
  obtain ⟨q, e3⟩ := own_addr (h.row 2 (by decide : 2 < 5)) (by show 0 < s.sp.last.length; omega)
  dsimp only at e1 e2 e3
  exact ⟨r, p, q, xa, xr, xl, xG, xg, xD, xd, by rw [e1, e2, e3]⟩
theorem l7next_any (y : SA) (s : St) (w : World) (base top : Nat) (hok : StOk s) (hgl : s.gone.length ≤ 1048576) (htop : top ≤ w.heap.size) (hO : Own w base top (rows5 y s)) :
    Calls Try.prog 67 #[(.agg #[.slice y.A s.rows.length y.a, .slice y.R s.sp.refs.length y.r, .slice y.L s.sp.last.length y.l, .int .i64 s.txg, .slice y.G s.gone.length y.g, .int .i64 s.keep, .slice y.D s.dead.length y.d, .bool s.same])] w (NxPost (nextSt s) base w) := by
  obtain ⟨r, p, q, xa, xr, xl, xG, xg, xD, xd, rfl⟩ := five_addr hO hok.len hok.sp.1 hok.sp.2.1
  simp only [hok.len, hok.sp.1, hok.sp.2.1]
  exact spec_l7next p q r xa xr xl xg xd base top xG xD s w hok hgl htop hO

set_option maxRecDepth 100000 in
set_option maxHeartbeats 8000000 in
theorem spec_snext (x : SA) (s : St) (w : World) (hs : SBulk s) (hA : StAt w x s) : Calls Try.prog 28 #[(.agg #[.slice x.A s.rows.length x.a, .slice x.R s.sp.refs.length x.r, .slice x.L s.sp.last.length x.l, .int .i64 s.txg, .slice x.G s.gone.length x.g, .int .i64 s.keep, .slice x.D s.dead.length x.d, .bool s.same])] w (TPost2 (nextS s) (nextB s) w) := by
  have a := (B8.new w 28 (.slice x.A s.rows.length x.a) (.slice x.R s.sp.refs.length x.r) (.slice x.L s.sp.last.length x.l) (.int .i64 s.txg) (.slice x.G s.gone.length x.g) (.int .i64 s.keep) (.slice x.D s.dead.length x.d) (.bool s.same)).alloc (.cells #[.slice none 0 0, .slice none 0 0, .slice none 0 0, .int .i64 0, .slice none 0 0, .int .i64 0, .slice none 0 0, .bool false] 28)
  have c := B8.new (w.alloc (.cells #[.slice x.A s.rows.length x.a, .slice x.R s.sp.refs.length x.r, .slice x.L s.sp.last.length x.l, .int .i64 s.txg, .slice x.G s.gone.length x.g, .int .i64 s.keep, .slice x.D s.dead.length x.d, .bool s.same] 28)) 28 (.slice none 0 0) (.slice none 0 0) (.slice none 0 0) (.int .i64 0) (.slice none 0 0) (.int .i64 0) (.slice none 0 0) (.bool false)
  rw [World.size_alloc] at c
  have BB := bel_new (bel_new (Below.refl w.heap.size w) (.cells #[.slice x.A s.rows.length x.a, .slice x.R s.sp.refs.length x.r, .slice x.L s.sp.last.length x.l, .int .i64 s.txg, .slice x.G s.gone.length x.g, .int .i64 s.keep, .slice x.D s.dead.length x.d, .bool s.same] 28)) (.cells #[.slice none 0 0, .slice none 0 0, .slice none 0 0, .int .i64 0, .slice none 0 0, .int .i64 0, .slice none 0 0, .bool false] 28)
  have sz : ((w.alloc (.cells #[.slice x.A s.rows.length x.a, .slice x.R s.sp.refs.length x.r, .slice x.L s.sp.last.length x.l, .int .i64 s.txg, .slice x.G s.gone.length x.g, .int .i64 s.keep, .slice x.D s.dead.length x.d, .bool s.same] 28)).alloc (.cells #[.slice none 0 0, .slice none 0 0, .slice none 0 0, .int .i64 0, .slice none 0 0, .int .i64 0, .slice none 0 0, .bool false] 28)).heap.size = w.heap.size + 1 + 1 := by rw [World.size_alloc, World.size_alloc]
  have hO := spec_sok x s _ hs (hA.below BB)
  by_cases hok : StOk s
  · rw [okSt_yes hok] at hO
    have ht := hok.txg
    by_cases h9 : s.txg < 900
    · rw [nextS_yes ⟨hok, h9⟩, nextB_yes ⟨hok, h9⟩]
      have hC := fun W (hW : Below w.heap.size w W) => spec_l7copy x s W hs hok.sp.1 hok.sp.2.1 (hA.below hW)
      have hN := fun y W b t h1 h2 => l7next_any y s W b t hok hs.gone h1 h2
      have hng : ¬ (900 : Int) ≤ s.txg := by omega
      obtain ⟨ns, hns⟩ : ∃ n, n = nextSt s := ⟨_, rfl⟩
      simp only [← hns] at hN ⊢
      clear hs hA hok hns
      go_enter Try.func28, Try.ntmps28
      go_upto_region 1 with fail
      obtain ⟨W0, hW0⟩ : ∃ W, W = (w.alloc (.cells #[.slice x.A s.rows.length x.a, .slice x.R s.sp.refs.length x.r, .slice x.L s.sp.last.length x.l, .int .i64 s.txg, .slice x.G s.gone.length x.g, .int .i64 s.keep, .slice x.D s.dead.length x.d, .bool s.same] 28)).alloc (.cells #[.slice none 0 0, .slice none 0 0, .slice none 0 0, .int .i64 0, .slice none 0 0, .int .i64 0, .slice none 0 0, .bool false] 28) := ⟨_, rfl⟩
      rw [← hW0] at a c BB sz hO ⊢
      clear hW0
      replace sz := Nat.le_of_eq sz.symm
      obtain ⟨x0, x1, x2, x3, x4, x5, x6, x7⟩ := a.cells
      go_wp2_with (go_at_call 17; refine hO.mono ?_; rintro r w1 ⟨rfl, hb1⟩; refine Hid.out ?_)
      refine Lib.hid ?_
      clear x0 x1 x2 x3 x4 x5 x6 x7 hO
      have a := a.below hb1
      have c := c.below hb1
      have BB := bel_then BB hb1
      have s1 := Nat.le_trans sz hb1.size
      obtain ⟨x0, x1, x2, x3, x4, x5, x6, x7⟩ := a.cells
      have L := hC w1 BB
      unfold TPost at L
      go_wp2_with (go_at_call 61; refine L.mono ?_; rintro rr w2 ⟨y, rfl, O, hb2⟩; refine Hid.out ?_)
      refine Lib.hid ?_
      clear hC L hb1
      have c := c.below hb2
      have BB := bel_then BB hb2
      have s2 := Nat.le_trans s1 hb2.size
      have L := hN y w2 w1.heap.size w2.heap.size (Nat.le_refl _) O
      unfold NxPost at L
      go_wp2_with (go_at_call 67; refine L.mono ?_; rintro rr w3 ⟨y3, rfl, O3, hb3⟩; refine Hid.out ?_)
      refine Lib.hid ?_
      have c := c.belowB hb3 (by omega)
      have BB := BB.trans (hb3.mono (by omega))
      have s3 := Nat.le_trans s2 hb3.size
      clear hN L O hb2 hb3 a x0 x1 x2 x3 x4 x5 x6 x7
      have FN := Fin8.mk2 (x := y3) (s := ns) (H := w.heap.size + 1) c (by omega) (by omega) O3 BB
      have HF := Lib.hid FN
      obtain ⟨z0, z1, z2, z3, z4, z5, z6, z7⟩ := c.cells
      obtain ⟨f0, f1, f2, f3, f4, f5, f6, f7⟩ := c.fro
      clear FN
      go_wp2_with fail
      change bodyPost Try.prog Try.f28 _ Exit.ret _ (putS w3 (w.heap.size + 1) y3 ns)
      have HF := HF.out
      generalize putS _ _ _ _ = WF at HF ⊢
      clear z0 z1 z2 z3 z4 z5 z6 z7 f0 f1 f2 f3 f4 f5 f6 f7
      obtain ⟨⟨q0, q1, q2, q3, q4, q5, q6, q7⟩, ho, hb⟩ := (⟨HF.box.cells, HF.own, HF.bel⟩ : _ ∧ _ ∧ _)
      exact bodyPost_ret (v := .tuple #[.agg #[.slice y3.A ns.rows.length y3.a, .slice y3.R ns.sp.refs.length y3.r, .slice y3.L ns.sp.last.length y3.l, .int .i64 ns.txg, .slice y3.G ns.gone.length y3.g, .int .i64 ns.keep, .slice y3.D ns.dead.length y3.d, .bool ns.same], .bool true]) (by simp [results, Try.f28, go_sem, q0, q1, q2, q3, q4, q5, q6, q7]) rfl ⟨y3, rfl, ho, hb⟩
    · rw [nextS_no (fun h => h9 h.2), nextB_no (fun h => h9 h.2)]
      have hng : (900 : Int) ≤ s.txg := by omega
      clear hs hA hok h9
      go_enter Try.func28, Try.ntmps28
      go_upto_region 1 with fail
      obtain ⟨W0, hW0⟩ : ∃ W, W = (w.alloc (.cells #[.slice x.A s.rows.length x.a, .slice x.R s.sp.refs.length x.r, .slice x.L s.sp.last.length x.l, .int .i64 s.txg, .slice x.G s.gone.length x.g, .int .i64 s.keep, .slice x.D s.dead.length x.d, .bool s.same] 28)).alloc (.cells #[.slice none 0 0, .slice none 0 0, .slice none 0 0, .int .i64 0, .slice none 0 0, .int .i64 0, .slice none 0 0, .bool false] 28) := ⟨_, rfl⟩
      rw [← hW0] at a c BB sz hO ⊢
      clear hW0
      replace sz := Nat.le_of_eq sz.symm
      obtain ⟨x0, x1, x2, x3, x4, x5, x6, x7⟩ := a.cells
      go_wp2_with (go_at_call 17; refine hO.mono ?_; rintro r w1 ⟨rfl, hb1⟩; refine Hid.out ?_)
      refine Lib.hid ?_
      clear x0 x1 x2 x3 x4 x5 x6 x7 hO
      have a := a.below hb1
      have c := c.below hb1
      have BB := bel_then BB hb1
      have s1 := Nat.le_trans sz hb1.size
      obtain ⟨x0, x1, x2, x3, x4, x5, x6, x7⟩ := a.cells
      obtain ⟨z0, z1, z2, z3, z4, z5, z6, z7⟩ := c.cells
      obtain ⟨f0, f1, f2, f3, f4, f5, f6, f7⟩ := c.fro
      go_wp2_with fail
      obtain ⟨q0, q1, q2, q3, q4, q5, q6, q7⟩ := (set8_box (u0 := .slice none 0 0) (u1 := .slice none 0 0) (u2 := .slice none 0 0) (u3 := .int .i64 0) (u4 := .slice none 0 0) (u5 := .int .i64 0) (u6 := .slice none 0 0) (u7 := .bool false) c).cells
      exact bodyPost_ret (v := .tuple #[.agg #[.slice none 0 0, .slice none 0 0, .slice none 0 0, .int .i64 0, .slice none 0 0, .int .i64 0, .slice none 0 0, .bool false], .bool false]) (by simp [results, Try.f28, go_sem, q0, q1, q2, q3, q4, q5, q6, q7]) rfl ⟨SA.none, rfl, own_none _ _ _, set8_bel (u0 := .slice none 0 0) (u1 := .slice none 0 0) (u2 := .slice none 0 0) (u3 := .int .i64 0) (u4 := .slice none 0 0) (u5 := .int .i64 0) (u6 := .slice none 0 0) (u7 := .bool false) BB (by omega)⟩
  · rw [okSt_no hok] at hO
    rw [nextS_no (fun h => hok h.1), nextB_no (fun h => hok h.1)]
    clear hs hA hok
    go_enter Try.func28, Try.ntmps28
    go_upto_region 1 with fail
    obtain ⟨W0, hW0⟩ : ∃ W, W = (w.alloc (.cells #[.slice x.A s.rows.length x.a, .slice x.R s.sp.refs.length x.r, .slice x.L s.sp.last.length x.l, .int .i64 s.txg, .slice x.G s.gone.length x.g, .int .i64 s.keep, .slice x.D s.dead.length x.d, .bool s.same] 28)).alloc (.cells #[.slice none 0 0, .slice none 0 0, .slice none 0 0, .int .i64 0, .slice none 0 0, .int .i64 0, .slice none 0 0, .bool false] 28) := ⟨_, rfl⟩
    rw [← hW0] at a c BB sz hO ⊢
    clear hW0
    replace sz := Nat.le_of_eq sz.symm
    obtain ⟨x0, x1, x2, x3, x4, x5, x6, x7⟩ := a.cells
    go_wp2_with (go_at_call 17; refine hO.mono ?_; rintro r w1 ⟨rfl, hb1⟩; refine Hid.out ?_)
    refine Lib.hid ?_
    clear x0 x1 x2 x3 x4 x5 x6 x7 hO
    have a := a.below hb1
    have c := c.below hb1
    have BB := bel_then BB hb1
    have s1 := Nat.le_trans sz hb1.size
    obtain ⟨x0, x1, x2, x3, x4, x5, x6, x7⟩ := a.cells
    obtain ⟨z0, z1, z2, z3, z4, z5, z6, z7⟩ := c.cells
    obtain ⟨f0, f1, f2, f3, f4, f5, f6, f7⟩ := c.fro
    go_wp2_with fail
    obtain ⟨q0, q1, q2, q3, q4, q5, q6, q7⟩ := (set8_box (u0 := .slice none 0 0) (u1 := .slice none 0 0) (u2 := .slice none 0 0) (u3 := .int .i64 0) (u4 := .slice none 0 0) (u5 := .int .i64 0) (u6 := .slice none 0 0) (u7 := .bool false) c).cells
    exact bodyPost_ret (v := .tuple #[.agg #[.slice none 0 0, .slice none 0 0, .slice none 0 0, .int .i64 0, .slice none 0 0, .int .i64 0, .slice none 0 0, .bool false], .bool false]) (by simp [results, Try.f28, go_sem, q0, q1, q2, q3, q4, q5, q6, q7]) rfl ⟨SA.none, rfl, own_none _ _ _, set8_bel (u0 := .slice none 0 0) (u1 := .slice none 0 0) (u2 := .slice none 0 0) (u3 := .int .i64 0) (u4 := .slice none 0 0) (u5 := .int .i64 0) (u6 := .slice none 0 0) (u7 := .bool false) BB (by omega)⟩
end Go.Proofs.Ytmnamclndpfjnaa
