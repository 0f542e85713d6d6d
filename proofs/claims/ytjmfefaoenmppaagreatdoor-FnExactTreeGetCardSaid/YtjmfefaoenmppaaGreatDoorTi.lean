/-
  The text at a place of a tree, as the specification reads it.
-/
import Derived.Test.YtjmfefaoenmppaaGreatDoorTh
namespace Go.Proofs.YtjmfefaoenmppaaGreatDoor
open Go.RowKit

theorem zeros_one (n : Nat) : ∀ u ∈ zeros n, u.oneCell' = true := by rw [← flat_zero]; exact flat_one _
def WdPost (Q : List P5) (w : World) (e : Ending) (w' : World) : Prop :=
  ∃ g c : Nat, e = .returned (.slice (some ⟨g, 0, none⟩) 16 c) ∧ w'.ownsRow w.heap.size 40 5 (.slice (some ⟨g, 0, none⟩) 16 c) 16 (flat (pad Q)) ∧ Below w.heap.size w w'

set_option maxRecDepth 100000 in
set_option maxHeartbeats 8000000 in
theorem spec_wide (x : SA) (s : St) (a b c d e dep many : Int) (Q : List P5) (w : World) (hok : StOk s) (ht : ∀ t ∈ s.rows, t.size ≤ maxLen) (hA : StAt w x s) (hf : formT ⟨⟨a, b, c, d, e⟩, dep, many⟩) (hQ : leavesT s ⟨⟨a, b, c, d, e⟩, dep, many⟩ = some Q) :
    Calls Tryz.prog 82 #[.agg #[.slice x.A s.rows.length x.a, .slice x.R s.sp.refs.length x.r, .slice x.L s.sp.last.length x.l, .int .i64 s.txg, .slice x.G s.gone.length x.g, .int .i64 s.keep, .slice x.D s.dead.length x.d, .bool s.same], .agg #[.int .i64 a, .int .i64 b, .int .i64 c, .int .i64 d, .int .i64 e, .int .i64 dep, .int .i64 many]] w (WdPost Q w) := by
  obtain ⟨i0, hi, hz0, hz1, hz2⟩ := info_parts Tryz.info40
  have c0 := (B8.new w 38 (.slice x.A s.rows.length x.a) (.slice x.R s.sp.refs.length x.r) (.slice x.L s.sp.last.length x.l) (.int .i64 s.txg) (.slice x.G s.gone.length x.g) (.int .i64 s.keep) (.slice x.D s.dead.length x.d) (.bool s.same)).alloc (.cells #[.int .i64 a, .int .i64 b, .int .i64 c, .int .i64 d, .int .i64 e, .int .i64 dep, .int .i64 many] 42)
  have t0 := B7.new (w.alloc (.cells #[.slice x.A s.rows.length x.a, .slice x.R s.sp.refs.length x.r, .slice x.L s.sp.last.length x.l, .int .i64 s.txg, .slice x.G s.gone.length x.g, .int .i64 s.keep, .slice x.D s.dead.length x.d, .bool s.same] 38)) a b c d e dep many 42
  have BB : Below w.heap.size w ((w.alloc (.cells #[.slice x.A s.rows.length x.a, .slice x.R s.sp.refs.length x.r, .slice x.L s.sp.last.length x.l, .int .i64 s.txg, .slice x.G s.gone.length x.g, .int .i64 s.keep, .slice x.D s.dead.length x.d, .bool s.same] 38)).alloc (.cells #[.int .i64 a, .int .i64 b, .int .i64 c, .int .i64 d, .int .i64 e, .int .i64 dep, .int .i64 many] 42)) := bel_new (bel_new (Below.refl _ _) _) _
  rw [World.size_alloc] at t0
  have hC := spec_leaves x s a b c d e dep many (depthOf many) _ hok ht (hA.below BB) hf.2.2 (depthOf_le many) hf.2.1
  have hl : Q.length = 1 ∨ Q.length = 4 ∨ Q.length = 16 := by
    rw [levS_len (show levS s (depthOf many) [⟨a, b, c, d, e⟩] = some Q from hQ)]
    have := depthOf_le many
    rcases (show depthOf many = 0 ∨ depthOf many = 1 ∨ depthOf many = 2 by omega) with h | h | h <;> rw [h] <;> simp
  rw [show levS s (depthOf many) [⟨a, b, c, d, e⟩] = some Q from hQ] at hC
  have hC2 : Calls Tryz.prog 49 #[.agg #[.slice x.A s.rows.length x.a, .slice x.R s.sp.refs.length x.r, .slice x.L s.sp.last.length x.l, .int .i64 s.txg, .slice x.G s.gone.length x.g, .int .i64 s.keep, .slice x.D s.dead.length x.d, .bool s.same], .agg #[.int .i64 a, .int .i64 b, .int .i64 c, .int .i64 d, .int .i64 e, .int .i64 dep, .int .i64 many]] ((w.alloc (.cells #[.slice x.A s.rows.length x.a, .slice x.R s.sp.refs.length x.r, .slice x.L s.sp.last.length x.l, .int .i64 s.txg, .slice x.G s.gone.length x.g, .int .i64 s.keep, .slice x.D s.dead.length x.d, .bool s.same] 38)).alloc (.cells #[.int .i64 a, .int .i64 b, .int .i64 c, .int .i64 d, .int .i64 e, .int .i64 dep, .int .i64 many] 42)) fun r w' => ∃ g cc : Nat, r = .returned (.tuple #[.slice (some ⟨g, 0, none⟩) Q.length cc, .bool true]) ∧ Below ((w.alloc (.cells #[.slice x.A s.rows.length x.a, .slice x.R s.sp.refs.length x.r, .slice x.L s.sp.last.length x.l, .int .i64 s.txg, .slice x.G s.gone.length x.g, .int .i64 s.keep, .slice x.D s.dead.length x.d, .bool s.same] 38)).alloc (.cells #[.int .i64 a, .int .i64 b, .int .i64 c, .int .i64 d, .int .i64 e, .int .i64 dep, .int .i64 many] 42)).heap.size ((w.alloc (.cells #[.slice x.A s.rows.length x.a, .slice x.R s.sp.refs.length x.r, .slice x.L s.sp.last.length x.l, .int .i64 s.txg, .slice x.G s.gone.length x.g, .int .i64 s.keep, .slice x.D s.dead.length x.d, .bool s.same] 38)).alloc (.cells #[.int .i64 a, .int .i64 b, .int .i64 c, .int .i64 d, .int .i64 e, .int .i64 dep, .int .i64 many] 42)) w' ∧ PtrsAt w' g Q := hC.mono fun r w' h => by obtain ⟨h1, g, cc, h2, h3, h4⟩ := h; exact ⟨g, cc, h2, h1, h4⟩
  clear hC hQ hf hok ht hA
  go_enter Tryz.func82, Tryz.ntmps82
  go_upto_region 1 with fail
  generalize hW0 : (w.alloc (.cells #[.slice x.A s.rows.length x.a, .slice x.R s.sp.refs.length x.r, .slice x.L s.sp.last.length x.l, .int .i64 s.txg, .slice x.G s.gone.length x.g, .int .i64 s.keep, .slice x.D s.dead.length x.d, .bool s.same] 38)).alloc (.cells #[.int .i64 a, .int .i64 b, .int .i64 c, .int .i64 d, .int .i64 e, .int .i64 dep, .int .i64 many] 42) = W0 at c0 t0 BB hC2
  clear hW0
  obtain ⟨x0, x1, x2, x3, x4, x5, x6, x7⟩ := c0.cells
  obtain ⟨y0, y1, y2, y3, y4, y5, y6⟩ := t0.cells
  clear c0 t0
  rcases hl with hq | hq | hq
  · have hH : ∀ W, Calls Tryz.prog 99 #[.int .i64 15] W (HolesPost 15 W) := fun W => spec_holes 15 (by decide) W
    rw [hq] at hC2
    have HQ := Lib.hid hq
    clear hq
    go_wp2_with (go_at_call 49; refine hC2.mono ?_; rintro r w2 ⟨g, cc, rfl, hb2, hP⟩; refine Hid.out ?_)
    refine Lib.hid ?_
    have B2w := bel_then BB hb2
    have o1 := World.ownsRow_made (e := 40) (base := w2.heap.size) w2 (size := 5) #[] 0 (Nat.le_refl _) (by decide) rfl
    have Bn := bel_new (Below.refl w2.heap.size w2) (.cells #[] 40)
    have hL1 := (ptrsAt_lies hP).below Bn
    have hq := HQ.out
    clear hC2 hP hb2 x0 x1 x2 x3 x4 x5 x6 x7 y0 y1 y2 y3 y4 y5 y6 BB
    have hF : flat (pad Q) = flat Q ++ zeros 15 := by rw [flat_pad, hq]
    go_wp2_with ((at_builtin; refine wpList_append_lies2 _ rfl _ _ 36 rfl w2.heap.size 40 i0 (.agg #[.int .i64 0, .int .i64 0, .int .i64 0, .int .i64 0, .int .i64 0]) 5 40 Tryz.underlying36 hi hz0 hz1 hz2 rfl (by decide) _ _ _ rfl o1 (some ⟨g, 0, none⟩) 1 cc (flat Q) rfl (by rw [flat_len, hq]) hL1 (flat_one Q) (by unfold maxLen; omega) (by omega) (by simp) ?_))
    intro v' w3 hown hgrow
    have R3 : w3.ownsRow w2.heap.size 40 5 v' 1 (flat Q) := hown
    have B3 := Fx.bel_row5 Bn o1 (Nat.le_refl _) hgrow
    obtain ⟨g3, c3, rfl⟩ := Fx.own_form5 R3 (by decide)
    clear hown hgrow o1 Bn hL1 hq
    go_wp2_with (first | (go_at_call 99; refine (hH _).mono ?_; rintro r w4 ⟨g4, c4, rfl, ho4, hb4⟩; have o4 := own_bel R3 hb4; have B4 := bel_then B3 hb4; have s4 := B4.size; obtain ⟨A5, c5, e5, hL4⟩ := own_lies ho4; injection e5 with eA en ec; subst eA; subst ec) | (at_builtin; refine wpList_append_lies2 _ rfl _ _ 36 rfl w2.heap.size 40 i0 (.agg #[.int .i64 0, .int .i64 0, .int .i64 0, .int .i64 0, .int .i64 0]) 5 40 Tryz.underlying36 hi hz0 hz1 hz2 rfl (by decide) _ _ _ rfl o4 (some ⟨g4, 0, none⟩) 15 c4 (zeros 15) rfl (by rw [zeros_len, Nat.mul_comm]) hL4 (zeros_one 15) (by unfold maxLen; omega) (by omega) s4 ?_))
    intro v2 w5 hown hgrow
    have R5 : w5.ownsRow w2.heap.size 40 5 v2 16 (flat (pad Q)) := by rw [hF]; exact hown
    have B5 := Fx.bel_row5 B4 o4 (Nat.le_refl _) hgrow
    obtain ⟨g5, c5, rfl⟩ := Fx.own_form5 R5 (by decide)
    clear hown hgrow
    go_wp2_with fail
    go_ret
    exact ⟨g5, c5, rfl, own_base R5 B2w.size, bel_then B2w B5⟩
  · have hH : ∀ W, Calls Tryz.prog 99 #[.int .i64 12] W (HolesPost 12 W) := fun W => spec_holes 12 (by decide) W
    rw [hq] at hC2
    have HQ := Lib.hid hq
    clear hq
    go_wp2_with (go_at_call 49; refine hC2.mono ?_; rintro r w2 ⟨g, cc, rfl, hb2, hP⟩; refine Hid.out ?_)
    refine Lib.hid ?_
    have B2w := bel_then BB hb2
    have o1 := World.ownsRow_made (e := 40) (base := w2.heap.size) w2 (size := 5) #[] 0 (Nat.le_refl _) (by decide) rfl
    have Bn := bel_new (Below.refl w2.heap.size w2) (.cells #[] 40)
    have hL1 := (ptrsAt_lies hP).below Bn
    have hq := HQ.out
    clear hC2 hP hb2 x0 x1 x2 x3 x4 x5 x6 x7 y0 y1 y2 y3 y4 y5 y6 BB
    have hF : flat (pad Q) = flat Q ++ zeros 12 := by rw [flat_pad, hq]
    go_wp2_with ((at_builtin; refine wpList_append_lies2 _ rfl _ _ 36 rfl w2.heap.size 40 i0 (.agg #[.int .i64 0, .int .i64 0, .int .i64 0, .int .i64 0, .int .i64 0]) 5 40 Tryz.underlying36 hi hz0 hz1 hz2 rfl (by decide) _ _ _ rfl o1 (some ⟨g, 0, none⟩) 4 cc (flat Q) rfl (by rw [flat_len, hq]) hL1 (flat_one Q) (by unfold maxLen; omega) (by omega) (by simp) ?_))
    intro v' w3 hown hgrow
    have R3 : w3.ownsRow w2.heap.size 40 5 v' 4 (flat Q) := hown
    have B3 := Fx.bel_row5 Bn o1 (Nat.le_refl _) hgrow
    obtain ⟨g3, c3, rfl⟩ := Fx.own_form5 R3 (by decide)
    clear hown hgrow o1 Bn hL1 hq
    go_wp2_with (first | (go_at_call 99; refine (hH _).mono ?_; rintro r w4 ⟨g4, c4, rfl, ho4, hb4⟩; have o4 := own_bel R3 hb4; have B4 := bel_then B3 hb4; have s4 := B4.size; obtain ⟨A5, c5, e5, hL4⟩ := own_lies ho4; injection e5 with eA en ec; subst eA; subst ec) | (at_builtin; refine wpList_append_lies2 _ rfl _ _ 36 rfl w2.heap.size 40 i0 (.agg #[.int .i64 0, .int .i64 0, .int .i64 0, .int .i64 0, .int .i64 0]) 5 40 Tryz.underlying36 hi hz0 hz1 hz2 rfl (by decide) _ _ _ rfl o4 (some ⟨g4, 0, none⟩) 12 c4 (zeros 12) rfl (by rw [zeros_len, Nat.mul_comm]) hL4 (zeros_one 12) (by unfold maxLen; omega) (by omega) s4 ?_))
    intro v2 w5 hown hgrow
    have R5 : w5.ownsRow w2.heap.size 40 5 v2 16 (flat (pad Q)) := by rw [hF]; exact hown
    have B5 := Fx.bel_row5 B4 o4 (Nat.le_refl _) hgrow
    obtain ⟨g5, c5, rfl⟩ := Fx.own_form5 R5 (by decide)
    clear hown hgrow
    go_wp2_with fail
    go_ret
    exact ⟨g5, c5, rfl, own_base R5 B2w.size, bel_then B2w B5⟩
  · have hH : ∀ W, Calls Tryz.prog 99 #[.int .i64 0] W (HolesPost 0 W) := fun W => spec_holes 0 (by decide) W
    rw [hq] at hC2
    have HQ := Lib.hid hq
    clear hq
    go_wp2_with (go_at_call 49; refine hC2.mono ?_; rintro r w2 ⟨g, cc, rfl, hb2, hP⟩; refine Hid.out ?_)
    refine Lib.hid ?_
    have B2w := bel_then BB hb2
    have o1 := World.ownsRow_made (e := 40) (base := w2.heap.size) w2 (size := 5) #[] 0 (Nat.le_refl _) (by decide) rfl
    have Bn := bel_new (Below.refl w2.heap.size w2) (.cells #[] 40)
    have hL1 := (ptrsAt_lies hP).below Bn
    have hq := HQ.out
    clear hC2 hP hb2 x0 x1 x2 x3 x4 x5 x6 x7 y0 y1 y2 y3 y4 y5 y6 BB
    have hF : flat (pad Q) = flat Q ++ zeros 0 := by rw [flat_pad, hq]
    go_wp2_with ((at_builtin; refine wpList_append_lies2 _ rfl _ _ 36 rfl w2.heap.size 40 i0 (.agg #[.int .i64 0, .int .i64 0, .int .i64 0, .int .i64 0, .int .i64 0]) 5 40 Tryz.underlying36 hi hz0 hz1 hz2 rfl (by decide) _ _ _ rfl o1 (some ⟨g, 0, none⟩) 16 cc (flat Q) rfl (by rw [flat_len, hq]) hL1 (flat_one Q) (by unfold maxLen; omega) (by omega) (by simp) ?_))
    intro v' w3 hown hgrow
    have R3 : w3.ownsRow w2.heap.size 40 5 v' 16 (flat Q) := hown
    have B3 := Fx.bel_row5 Bn o1 (Nat.le_refl _) hgrow
    obtain ⟨g3, c3, rfl⟩ := Fx.own_form5 R3 (by decide)
    clear hown hgrow o1 Bn hL1 hq
    go_wp2_with (first | (go_at_call 99; refine (hH _).mono ?_; rintro r w4 ⟨g4, c4, rfl, ho4, hb4⟩; have o4 := own_bel R3 hb4; have B4 := bel_then B3 hb4; have s4 := B4.size; obtain ⟨A5, c5, e5, hL4⟩ := own_lies ho4; injection e5 with eA en ec; subst eA; subst ec) | (at_builtin; refine wpList_append_lies2 _ rfl _ _ 36 rfl w2.heap.size 40 i0 (.agg #[.int .i64 0, .int .i64 0, .int .i64 0, .int .i64 0, .int .i64 0]) 5 40 Tryz.underlying36 hi hz0 hz1 hz2 rfl (by decide) _ _ _ rfl o4 (some ⟨g4, 0, none⟩) 0 c4 (zeros 0) rfl (by rw [zeros_len, Nat.mul_comm]) hL4 (zeros_one 0) (by unfold maxLen; omega) (by omega) s4 ?_))
    intro v2 w5 hown hgrow
    have R5 : w5.ownsRow w2.heap.size 40 5 v2 16 (flat (pad Q)) := by rw [hF]; exact hown
    have B5 := Fx.bel_row5 B4 o4 (Nat.le_refl _) hgrow
    obtain ⟨g5, c5, rfl⟩ := Fx.own_form5 R5 (by decide)
    clear hown hgrow
    go_wp2_with fail
    go_ret
    exact ⟨g5, c5, rfl, own_base R5 B2w.size, bel_then B2w B5⟩

set_option maxRecDepth 100000 in
set_option maxHeartbeats 8000000 in
theorem spec_l8get (x : SA) (s : St) (a b c d e dep many : Int) (n : Nat) (w : World) (hok : StOk s) (ht : ∀ t ∈ s.rows, t.size ≤ maxLen) (hA : StAt w x s) (hT : okT s ⟨⟨a, b, c, d, e⟩, dep, many⟩ = true) (hn : n < 16) :
    Calls Tryz.prog 55 #[.agg #[.slice x.A s.rows.length x.a, .slice x.R s.sp.refs.length x.r, .slice x.L s.sp.last.length x.l, .int .i64 s.txg, .slice x.G s.gone.length x.g, .int .i64 s.keep, .slice x.D s.dead.length x.d, .bool s.same], .agg #[.int .i64 a, .int .i64 b, .int .i64 c, .int .i64 d, .int .i64 e, .int .i64 dep, .int .i64 many], .int .i64 (n : Int)] w fun r w' => r = .returned (.string (readC s (placeT s ⟨⟨a, b, c, d, e⟩, dep, many⟩ n)).1) ∧ Below w.heap.size w w' := by
  have c0 := (B8.new w 38 (.slice x.A s.rows.length x.a) (.slice x.R s.sp.refs.length x.r) (.slice x.L s.sp.last.length x.l) (.int .i64 s.txg) (.slice x.G s.gone.length x.g) (.int .i64 s.keep) (.slice x.D s.dead.length x.d) (.bool s.same)).alloc (.cells #[.int .i64 a, .int .i64 b, .int .i64 c, .int .i64 d, .int .i64 e, .int .i64 dep, .int .i64 many] 42)
  have t0 := B7.new (w.alloc (.cells #[.slice x.A s.rows.length x.a, .slice x.R s.sp.refs.length x.r, .slice x.L s.sp.last.length x.l, .int .i64 s.txg, .slice x.G s.gone.length x.g, .int .i64 s.keep, .slice x.D s.dead.length x.d, .bool s.same] 38)) a b c d e dep many 42
  have BB : Below w.heap.size w ((w.alloc (.cells #[.slice x.A s.rows.length x.a, .slice x.R s.sp.refs.length x.r, .slice x.L s.sp.last.length x.l, .int .i64 s.txg, .slice x.G s.gone.length x.g, .int .i64 s.keep, .slice x.D s.dead.length x.d, .bool s.same] 38)).alloc (.cells #[.int .i64 a, .int .i64 b, .int .i64 c, .int .i64 d, .int .i64 e, .int .i64 dep, .int .i64 many] 42)) := bel_new (bel_new (Below.refl _ _) _) _
  rw [World.size_alloc] at t0
  obtain ⟨hf, Q, hQ, _⟩ := okT_parts hT
  have hpo := (place_ok (n := n) hT).1
  have hC := spec_wide x s a b c d e dep many Q _ hok ht (hA.below BB) hf hQ
  have hQ16 : Q.length ≤ 16 := levS_16 (depthOf_le many) hQ
  have hpl : placeT s ⟨⟨a, b, c, d, e⟩, dep, many⟩ n = (pad Q).getD n P5.zero := by unfold placeT; rw [hQ, Option.getD_some, pad_getD]
  rw [hpl] at hpo ⊢
  have hlp : n < (pad Q).length := by rw [pad_len hQ16]; exact hn
  obtain ⟨⟨pa, pb, pc, pd, pe⟩, hpj⟩ : ∃ r, (pad Q)[n] = r := ⟨_, rfl⟩
  have hgd : (pad Q).getD n P5.zero = ⟨pa, pb, pc, pd, pe⟩ := by rw [List.getD_eq_getElem?_getD, List.getElem?_eq_getElem hlp, Option.getD_some, hpj]
  rw [hgd] at hpo ⊢
  have hR := fun W (hW : Below w.heap.size w W) => spec_l7read x s pa pb pc pd pe W hok ht (hA.below hW) hpo
  obtain ⟨⟨tx, q⟩, hrd⟩ : ∃ q, q = readC s ⟨pa, pb, pc, pd, pe⟩ := ⟨_, rfl⟩
  rw [← hrd] at hR ⊢
  have HP := Lib.hid hpj

  have h16 : (pad Q).length = 16 := pad_len hQ16
  have H16 := Lib.hid h16
  have hn' : (n : Int) < 16 := by omega
  clear hf hQ hpl hgd hpo hpj hrd hT hok ht hA h16
  go_enter Tryz.func55, Tryz.ntmps55
  go_upto_region 1 with fail
  generalize hW0 : (w.alloc (.cells #[.slice x.A s.rows.length x.a, .slice x.R s.sp.refs.length x.r, .slice x.L s.sp.last.length x.l, .int .i64 s.txg, .slice x.G s.gone.length x.g, .int .i64 s.keep, .slice x.D s.dead.length x.d, .bool s.same] 38)).alloc (.cells #[.int .i64 a, .int .i64 b, .int .i64 c, .int .i64 d, .int .i64 e, .int .i64 dep, .int .i64 many] 42) = W0 at c0 t0 BB hC
  clear hW0
  obtain ⟨x0, x1, x2, x3, x4, x5, x6, x7⟩ := c0.cells
  obtain ⟨y0, y1, y2, y3, y4, y5, y6⟩ := t0.cells
  go_upto_region 2 with (go_at_call 82; refine hC.mono ?_; rintro r w2 ⟨g, cc, rfl, ho, hb2⟩)
  have B2w := bel_then BB hb2
  have cD := (c0.below hb2).drew
  have hPt : PtrsAt w2 g (pad Q) := (ptrsAt_own (by rw [H16.out]; exact ho)).2
  obtain ⟨u0, u1, u2, u3, u4⟩ := (hPt.below (Below.refl _ w2).drew).cell n hlp HP.out
  clear x0 x1 x2 x3 x4 x5 x6 x7 y0 y1 y2 y3 y4 y5 y6 hC ho c0 t0 hb2 hPt
  obtain ⟨x0, x1, x2, x3, x4, x5, x6, x7⟩ := cD.cells
  have hR2 := hR _ B2w.drew
  clear hR
  first
    | go_region_with (go_at_call 74; refine hR2.mono ?_; rintro r w3 ⟨rfl, hb3⟩)
    | fail "region"
  all_goals go_wp2_with fail
  all_goals go_ret
  all_goals exact ⟨rfl, bel_then B2w.drew hb3⟩

set_option maxRecDepth 100000 in
set_option maxHeartbeats 8000000 in
theorem spec_treeget (x : SA) (s : St) (a b c d e dep many k : Int) (w : World) (hs : SBulk s) (hA : StAt w x s) :
    Calls Tryz.prog 22 #[.agg #[.slice x.A s.rows.length x.a, .slice x.R s.sp.refs.length x.r, .slice x.L s.sp.last.length x.l, .int .i64 s.txg, .slice x.G s.gone.length x.g, .int .i64 s.keep, .slice x.D s.dead.length x.d, .bool s.same], .agg #[.int .i64 a, .int .i64 b, .int .i64 c, .int .i64 d, .int .i64 e, .int .i64 dep, .int .i64 many], .int .i64 k] w (RdPost (getT s ⟨⟨a, b, c, d, e⟩, dep, many⟩ k) w) := by
  have c0 := (B8.new w 38 (.slice x.A s.rows.length x.a) (.slice x.R s.sp.refs.length x.r) (.slice x.L s.sp.last.length x.l) (.int .i64 s.txg) (.slice x.G s.gone.length x.g) (.int .i64 s.keep) (.slice x.D s.dead.length x.d) (.bool s.same)).alloc (.cells #[.int .i64 a, .int .i64 b, .int .i64 c, .int .i64 d, .int .i64 e, .int .i64 dep, .int .i64 many] 42)
  have t0 := B7.new (w.alloc (.cells #[.slice x.A s.rows.length x.a, .slice x.R s.sp.refs.length x.r, .slice x.L s.sp.last.length x.l, .int .i64 s.txg, .slice x.G s.gone.length x.g, .int .i64 s.keep, .slice x.D s.dead.length x.d, .bool s.same] 38)) a b c d e dep many 42
  have BB : Below w.heap.size w ((w.alloc (.cells #[.slice x.A s.rows.length x.a, .slice x.R s.sp.refs.length x.r, .slice x.L s.sp.last.length x.l, .int .i64 s.txg, .slice x.G s.gone.length x.g, .int .i64 s.keep, .slice x.D s.dead.length x.d, .bool s.same] 38)).alloc (.cells #[.int .i64 a, .int .i64 b, .int .i64 c, .int .i64 d, .int .i64 e, .int .i64 dep, .int .i64 many] 42)) := bel_new (bel_new (Below.refl _ _) _) _
  rw [World.size_alloc] at t0
  have hK := spec_treeok x s a b c d e dep many _ hs (hA.below BB)
  have hno := @getT_no s ⟨⟨a, b, c, d, e⟩, dep, many⟩ k
  have hyes := @getT_yes s ⟨⟨a, b, c, d, e⟩, dep, many⟩ k
  obtain ⟨G, hG⟩ : ∃ G, G = getT s ⟨⟨a, b, c, d, e⟩, dep, many⟩ k := ⟨_, rfl⟩
  rw [← hG] at hno hyes ⊢
  have hg8 := fun (hok : StOk s) (hT : okT s ⟨⟨a, b, c, d, e⟩, dep, many⟩ = true) (n : Nat) (hn : n < 16) W (hW : Below w.heap.size w W) => spec_l8get x s a b c d e dep many n W hok hs.texts (hA.below hW) hT hn
  go_enter Tryz.func22, Tryz.ntmps22
  go_upto_region 1 with fail
  generalize hW0 : (w.alloc (.cells #[.slice x.A s.rows.length x.a, .slice x.R s.sp.refs.length x.r, .slice x.L s.sp.last.length x.l, .int .i64 s.txg, .slice x.G s.gone.length x.g, .int .i64 s.keep, .slice x.D s.dead.length x.d, .bool s.same] 38)).alloc (.cells #[.int .i64 a, .int .i64 b, .int .i64 c, .int .i64 d, .int .i64 e, .int .i64 dep, .int .i64 many] 42) = W0 at c0 t0 BB hK
  clear hW0 hG hA
  obtain ⟨x0, x1, x2, x3, x4, x5, x6, x7⟩ := c0.cells
  obtain ⟨y0, y1, y2, y3, y4, y5, y6⟩ := t0.cells
  by_cases hv : okSt s = true ∧ okT s ⟨⟨a, b, c, d, e⟩, dep, many⟩ = true
  · obtain ⟨hk1, hk2⟩ := hv
    rw [hk1, hk2] at hK
    have hok : StOk s := of_decide_eq_true hk1
    obtain ⟨⟨hm0, hm1⟩, -, -⟩ := (okT_parts hk2).1
    simp only at hm0 hm1
    have hI := fun W => s_in k 0 (many - 1) W
    cases hin : inB k 0 (many - 1) with
    | false =>
      have HN := Lib.hid (hno (fun h => by have := inB_yes h.2; rw [hin] at this; cases this))
      rw [hin] at hI
      clear hno hyes hin hg8 hk1 hk2
      go_wp2_with (first | (go_at_call 11; refine hK.mono ?_; rintro r w2 ⟨rfl, hb2⟩; obtain ⟨y0, y1, y2, y3, y4, y5, y6⟩ := (t0.below hb2).cells) | (go_at_call 54; refine (hI _).mono ?_; rintro r w3 ⟨rfl, rfl⟩))
      go_ret2
      rw [HN.out]
      exact ⟨rfl, bel_then BB hb2⟩
    | true =>
      have hkr := inB_iff.1 hin
      rw [hin] at hI
      obtain ⟨n, rfl⟩ : ∃ n : Nat, k = (n : Int) := ⟨k.toNat, by omega⟩
      have HY := Lib.hid (hyes ⟨⟨hk1, hk2⟩, hkr⟩)
      have hg9 := hg8 hok hk2 n (by omega)
      clear hno hyes hin hg8 hk1 hk2 hkr
      go_wp2_with (first | (go_at_call 11; refine hK.mono ?_; rintro r w2 ⟨rfl, hb2⟩; have B2w := bel_then BB hb2; obtain ⟨x0, x1, x2, x3, x4, x5, x6, x7⟩ := (c0.below hb2).cells; obtain ⟨y0, y1, y2, y3, y4, y5, y6⟩ := (t0.below hb2).cells) | (go_at_call 54; refine (hI _).mono ?_; rintro r w3 ⟨rfl, rfl⟩) | (go_at_call 55; refine (hg9 _ B2w).mono ?_; rintro r w4 ⟨rfl, hb4⟩))
      go_ret2
      rw [HY.out, Int.toNat_natCast]
      exact ⟨rfl, bel_then B2w hb4⟩
  · have HN := Lib.hid (hno (fun h => hv h.1))
    have hK2 : Calls Tryz.prog 11 #[.agg #[.slice x.A s.rows.length x.a, .slice x.R s.sp.refs.length x.r, .slice x.L s.sp.last.length x.l, .int .i64 s.txg, .slice x.G s.gone.length x.g, .int .i64 s.keep, .slice x.D s.dead.length x.d, .bool s.same], .agg #[.int .i64 a, .int .i64 b, .int .i64 c, .int .i64 d, .int .i64 e, .int .i64 dep, .int .i64 many]] W0 fun r w' => r = .returned (.bool false) ∧ Below W0.heap.size W0 w' := by
      have h0 : (okSt s && okT s ⟨⟨a, b, c, d, e⟩, dep, many⟩) = false := by
        cases h1 : okSt s with
        | false => rfl
        | true =>
          cases h2 : okT s ⟨⟨a, b, c, d, e⟩, dep, many⟩ with
          | false => rfl
          | true => exact absurd ⟨h1, h2⟩ hv
      rw [h0] at hK
      exact hK
    clear hno hyes hv hg8 hK
    go_wp2_with (go_at_call 11; refine hK2.mono ?_; rintro r w2 ⟨rfl, hb2⟩)
    go_ret2
    rw [HN.out]
    exact ⟨rfl, bel_then BB hb2⟩
end Go.Proofs.YtjmfefaoenmppaaGreatDoor
