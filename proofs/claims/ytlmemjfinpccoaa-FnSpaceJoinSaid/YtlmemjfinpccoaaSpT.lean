/-
  The model's way of taking a reference, and of giving one back.
-/
import Derived.Test.YtlmemjfinpccoaaSpO
import Derived.Test.YtlmemjfinpccoaaCp
namespace Go.Proofs.Ytlmemjfinpccoaa
open Go.RowKit

/-- One number of a row of the call's own is written. -/
theorem own_put {W : World} {base p k c n : Nat} {xs : List Int} (h : W.ownsRow base 3 1 (.slice (some ⟨p, 0, none⟩) n c) n (intCells xs)) (x : Int) :
    (W.setCell ⟨p, k, none⟩ (.int .i64 x)).ownsRow base 3 1 (.slice (some ⟨p, 0, none⟩) n c) n (intCells (xs.set k x)) := by
  have := (h.stored k (.int .i64 x)).1
  rwa [intCells_set] at this
theorem own_addr2 {W : World} {base : Nat} {A B : Option Addr} {c e : Nat} {s : Sp} (h : SpOwn W base (.agg #[.slice A s.refs.length c, .slice B s.last.length e]) s) (h1 : 0 < s.refs.length) (h2 : 0 < s.last.length) :
    ∃ p q, A = some ⟨p, 0, none⟩ ∧ B = some ⟨q, 0, none⟩ ∧ p ≠ q ∧ base ≤ p ∧ base ≤ q ∧ p < W.heap.size ∧ q < W.heap.size ∧ W.ownsRow base 3 1 (.slice (some ⟨p, 0, none⟩) s.refs.length c) s.refs.length (intCells s.refs) ∧ W.ownsRow base 3 1 (.slice (some ⟨q, 0, none⟩) s.last.length e) s.last.length (intCells s.last) := by
  obtain ⟨u1, u2, e0, g1, g2, g3⟩ := h
  simp only [Value.agg.injEq, Array.mk.injEq, List.cons.injEq, and_true] at e0
  obtain ⟨rfl, rfl⟩ := e0
  obtain ⟨p, rfl⟩ := own_addr g1 h1
  obtain ⟨q, rfl⟩ := own_addr g2 h2
  exact ⟨p, q, rfl, rfl, fun e => g3 p rfl (by rw [e]; rfl), (g1.lt p rfl).1, (g2.lt q rfl).1, (g1.lt p rfl).2, (g2.lt q rfl).2, g1, g2⟩
theorem SpOwn.mk2 {W : World} {base p q : Nat} {c e : Nat} {s : Sp} (hne : p ≠ q) (h1 : W.ownsRow base 3 1 (.slice (some ⟨p, 0, none⟩) s.refs.length c) s.refs.length (intCells s.refs)) (h2 : W.ownsRow base 3 1 (.slice (some ⟨q, 0, none⟩) s.last.length e) s.last.length (intCells s.last)) :
    SpOwn W base (.agg #[.slice (some ⟨p, 0, none⟩) s.refs.length c, .slice (some ⟨q, 0, none⟩) s.last.length e]) s :=
  ⟨_, _, rfl, h1, h2, fun k e1 e2 => by
    simp only [Value.ownBlock, Option.some.injEq] at e1 e2
    exact hne (by omega)⟩
theorem cell_own {W : World} {base p n c : Nat} {xs : List Int} (h : W.ownsRow base 3 1 (.slice (some ⟨p, 0, none⟩) n c) n (intCells xs)) {k : Nat} {x : Int} (hk : k < xs.length) (hx : xs[k] = x) : W.cell? ⟨p, k, none⟩ = some (.int .i64 x) ∧ W.frozen? ⟨p, k, none⟩ = false := by
  have hl := h.1
  rw [intCells_len] at hl
  refine ⟨?_, h.frozenAt k⟩
  rw [h.cellAt k (by omega), intCells_at xs k hk, hx]

/-- What a valid space holds at a row. -/
theorem at_row {s : Sp} (h : SpOk s) {n : Int} (h0 : 0 ≤ n) (h1 : n < 64) : ∃ x y, useAt (usOf s) n = (x, y) ∧ s.refs[n.toNat]'(by rw [h.1]; omega) = x ∧ s.last[n.toNat]'(by rw [h.2.1]; omega) = y := by
  refine ⟨_, _, ?_, rfl, rfl⟩
  unfold useAt
  rw [if_pos h0, usOf_at h.1 h.2.1 _ (by omega), List.getD_eq_getElem?_getD, List.getD_eq_getElem?_getD, List.getElem?_eq_getElem (by rw [h.1]; omega), List.getElem?_eq_getElem (by rw [h.2.1]; omega)]
  rfl
theorem spOf_take {s : Sp} (h : SpOk s) (n t : Int) {x y : Int} (hu : useAt (usOf s) n = (x, y)) (ht : y < t) : spOf (takeU (usOf s) n t) = ⟨s.refs.set n.toNat (x + 1), s.last.set n.toNat t⟩ := by
  unfold takeU
  rw [hu, spOf_set, spOf_usOf (by rw [h.1, h.2.1])]
  simp only
  rw [Int.max_eq_right (by omega)]

set_option maxRecDepth 100000 in
set_option maxHeartbeats 4000000 in
theorem spec_take (A B : Option Addr) (c e : Nat) (s : Sp) (n t : Int) (w : World) (hn : s.refs.length ≤ 1048576) (hm : s.last.length ≤ 1048576) (hA : SpAt w A B s) :
    Calls Try.prog 34 #[.agg #[.slice A s.refs.length c, .slice B s.last.length e], .int .i64 n, .int .i64 t] w (SPost2 (takeS s n t).1 (takeS s n t).2 w) := by
  have BB := bel_new (bel_new (Below.refl w.heap.size w) (.cells #[.slice A s.refs.length c, .slice B s.last.length e] 24)) (.cells #[.slice none 0 0, .slice none 0 0] 24)
  have b0 := two_box w A B s.refs.length c s.last.length e
  have a0 := (B2.new w 24 (.slice A s.refs.length c) (.slice B s.last.length e)).alloc (.cells #[.slice none 0 0, .slice none 0 0] 24)
  have hO := spec_ok A B c e s _ hn hm (hA.below BB)
  by_cases hs : SpOk s
  · rw [okS_yes hs] at hO
    have hC := fun W hW => spec_copy A B c e s W hs.1 hs.2.1 (hA.below (w' := W) hW)
    have hrow := fun w => s_row n w
    have hin := fun w => s_in t 1 900 w
    have hL2 := fun W hW => hA.2.below (w' := W) hW
    by_cases h1 : 8 ≤ n ∧ n ≤ 63
    · rw [inB_yes h1] at hrow
      obtain ⟨x, y, hu, hx, hy⟩ := at_row hs (n := n) (by omega) (by omega)
      obtain ⟨k, rfl⟩ : ∃ k : Nat, n = (k : Int) := ⟨n.toNat, by omega⟩
      have hkl : k < s.last.length := by rw [hs.2.1]; omega
      have hkr : k < s.refs.length := by rw [hs.1]; omega
      have huo := use_ok hs (n := (k : Int))
      rw [hu] at huo
      have hy0 : 0 ≤ y ∧ y ≤ 900 ∧ 0 ≤ x ∧ x ≤ 900 := by
        rcases huo with h | ⟨_, _, h1, h2, h3⟩
        · cases h; omega
        · simp only at h1 h2 h3; omega
      obtain ⟨hy0, hy1, hx0, hx1⟩ := hy0
      simp only [Int.toNat_natCast] at hx hy
      have hk64 : (k : Int) < 64 := by omega
      by_cases h2 : 1 ≤ t ∧ t ≤ 900
      · rw [inB_yes h2] at hin
        by_cases h3 : t ≤ y
        · have hT : takeS s (k : Int) t = (noS, false) := by unfold takeS; rw [hu, if_neg (fun h => by have := h.2.2.2.1; simp only at this; omega)]
          rw [hT]
          obtain ⟨b2, o2, rfl, hl2, hc2⟩ := hA.2.int k hkl
          rw [hy] at hc2
          rw [hs.1, hs.2.1] at hO BB b0 a0 ⊢
          have BBH := Lib.hid BB
          clear hT hC hL2 hA hs hu hx hy hkl hkr huo h1 h2
          go_enter Try.func34, Try.ntmps34
          go_wp2_with (first
            | (go_at_call 25; refine hO.mono ?_; rintro r w2 ⟨rfl, hb2⟩; obtain ⟨⟨y0, y1⟩, f0, f1⟩ := (b0.below hb2).cells; obtain ⟨⟨z0, z1⟩, _, _⟩ := (a0.below hb2).cells; have hc3 := ((bel_then BB hb2).cell (p := ⟨b2, o2 + k, none⟩) hl2).trans hc2)
            | (go_at_call 59; refine (hrow _).mono ?_; rintro r w' ⟨rfl, rfl⟩)
            | (go_at_call 58; refine (hin _).mono ?_; rintro r w' ⟨rfl, rfl⟩))
          exact bodyPost_ret (v := .tuple #[.agg #[.slice none 0 0, .slice none 0 0], .bool false]) (by simp [results, Try.f34, go_sem, y0, y1]) rfl (SPost.mk2 rfl rfl (noS_own _ _) (((bel_then BB hb2).setCell (p := ⟨w.heap.size + 1, 0, none⟩) (Nat.le_succ _) _).setCell (p := ⟨w.heap.size + 1, 1, none⟩) (Nat.le_succ _) _))
        · have h3' : ¬ t ≤ y := h3
          have hT : takeS s (k : Int) t = (⟨s.refs.set k (x + 1), s.last.set k t⟩, true) := by
            unfold takeS
            rw [hu, if_pos ⟨hs, h1.1, h1.2, by simp only; omega, h2.2⟩, spOf_take hs _ _ hu (by omega)]
            simp only [Int.toNat_natCast]
          rw [hT]
          obtain ⟨b2, o2, rfl, hl2, hc2⟩ := hA.2.int k hkl
          rw [hy] at hc2
          have H1 := Lib.hid hs.1
          have H2 := Lib.hid hs.2.1
          have HX : Hid (∃ h : k < s.refs.length, s.refs[k] = x) := Lib.hid ⟨hkr, hx⟩
          have HY : Hid (∃ h : k < s.last.length, s.last[k] = y) := Lib.hid ⟨hkl, hy⟩
          rw [hs.1, hs.2.1] at hO BB b0 a0 ⊢
          simp only [hs.1, hs.2.1] at hC
          have hb18 : 8 ≤ (k : Int) := h1.1
          clear hT hL2 hA hs hu hx hy hkl hkr huo h1 h2 h3
          go_enter Try.func34, Try.ntmps34
          go_wp2_with (first
            | (go_at_call 25; refine hO.mono ?_; rintro r w2 ⟨rfl, hb2⟩; obtain ⟨⟨z0, z1⟩, _, _⟩ := (a0.below hb2).cells; have hc3 := ((bel_then BB hb2).cell (p := ⟨b2, o2 + k, none⟩) hl2).trans hc2; have b1 := b0.below hb2; have B1 := bel_then BB hb2)
            | (go_at_call 59; refine (hrow _).mono ?_; rintro r w' ⟨rfl, rfl⟩)
            | (go_at_call 58; refine (hin _).mono ?_; rintro r w' ⟨rfl, rfl⟩)
            | (go_at_call 65; refine (hC _ B1).mono ?_; rintro r w3 ⟨A3, c3, B3, e3, rfl, o3, hb3⟩; refine Hid.out ?_))
          refine Lib.hid ?_
          obtain ⟨p, q, rfl, rfl, hpq, hp0, hq0, hp1, hq1, g1, g2⟩ := own_addr2 o3 (by rw [H1.out]; omega) (by rw [H2.out]; omega)
          rw [H1.out] at g1
          rw [H2.out] at g2
          rw [H1.out, H2.out]
          obtain ⟨bx, hbx⟩ : ∃ bx : Obj, bx = .cells #[.slice (some ⟨p, 0, none⟩) 64 c3, .slice (some ⟨q, 0, none⟩) 64 e3] 24 := ⟨_, rfl⟩
          have B3' := bel_new (bel_then B1 hb3) bx
          have b3 := (b1.below hb3).alloc bx
          have hs2 := b1.lt
          have g1a := g1.alloc bx
          have g2a := g2.alloc bx
          obtain ⟨hk1, hk2⟩ := HX.out
          obtain ⟨cp, fp⟩ := cell_own g1a hk1 hk2
          have g1b := own_put (k := k) g1a (x + 1)
          have g2b := g2a.kept (grown_set _ ⟨p, k, none⟩ (.int .i64 (x + 1))) (.inr (by simpa [Value.ownBlock] using hpq.symm))
          obtain ⟨hk3, hk4⟩ := HY.out
          obtain ⟨cq, fq⟩ := cell_own g2b hk3 hk4
          clear hk1 hk2 hk3 hk4
          have g2c := own_put (k := k) g2b t
          have g1c := g1b.kept (grown_set _ ⟨q, k, none⟩ (.int .i64 t)) (.inr (by simpa [Value.ownBlock] using hpq))
          have bb := B2.new w3 24 (.slice (some ⟨p, 0, none⟩) 64 c3) (.slice (some ⟨q, 0, none⟩) 64 e3)
          rw [← hbx] at bb
          obtain ⟨⟨m0, m1⟩, _, _⟩ := bb.cells
          have bb1 := bb.set (p := ⟨p, k, none⟩) (by show w3.heap.size ≠ p; omega) (.int .i64 (x + 1))
          obtain ⟨⟨m2, m3⟩, _, _⟩ := bb1.cells
          obtain ⟨⟨m4, m5⟩, _, _⟩ := (bb1.set (p := ⟨q, k, none⟩) (by show w3.heap.size ≠ q; omega) (.int .i64 t)).cells
          have b5 := (b3.set (p := ⟨p, k, none⟩) (by show w.heap.size + 1 ≠ p; omega) (.int .i64 (x + 1))).set (p := ⟨q, k, none⟩) (by show w.heap.size + 1 ≠ q; omega) (.int .i64 t)
          obtain ⟨⟨y0, y1⟩, f0, f1⟩ := b5.cells
          have B5 := (B3'.setCell (p := ⟨p, k, none⟩) (by have := B1.size; show w.heap.size ≤ p; omega) (.int .i64 (x + 1))).setCell (p := ⟨q, k, none⟩) (by have := B1.size; show w.heap.size ≤ q; omega) (.int .i64 t)
          have ow : SpOwn (((w3.alloc bx).setCell ⟨p, k, none⟩ (.int .i64 (x + 1))).setCell ⟨q, k, none⟩ (.int .i64 t)) (w.heap.size + 1 + 1) (.agg #[.slice (some ⟨p, 0, none⟩) 64 c3, .slice (some ⟨q, 0, none⟩) 64 e3]) ⟨s.refs.set k (x + 1), s.last.set k t⟩ :=
            ⟨_, _, rfl, by rw [show ((⟨s.refs.set k (x + 1), s.last.set k t⟩ : Sp).refs).length = 64 by simp [H1.out]]; exact own_base g1c (by omega), by rw [show ((⟨s.refs.set k (x + 1), s.last.set k t⟩ : Sp).last).length = 64 by simp [H2.out]]; exact own_base g2c (by omega), fun j e1 e2 => by
              simp only [Value.ownBlock, Option.some.injEq] at e1 e2
              exact hpq (by omega)⟩
          have HOW := Lib.hid ow
          have HB5 := Lib.hid B5
          clear ow B5 b5 bb1 bb g1c g2c g1b g2b g1a g2a g1 g2 hs2 b3 B3' hp0 hq0 hp1 hq1 o3 hb3 B1 b1 hC
          clear hc3 hl2 hc2
          subst hbx
          go_wp2_with fail
          go_region
          go_wp2_with fail
          exact bodyPost_ret (v := .tuple #[.agg #[.slice (some ⟨p, 0, none⟩) 64 c3, .slice (some ⟨q, 0, none⟩) 64 e3], .bool true]) (by simp [results, Try.f34, go_sem, y0, y1]) rfl (SPost.mk2 (by simp [H1.out]) (by simp [H2.out]) (((HOW.out.set (p := ⟨w.heap.size + 1, 0, none⟩) (Nat.lt_succ_self _) _).set (p := ⟨w.heap.size + 1, 1, none⟩) (Nat.lt_succ_self _) _).base (by omega)) ((HB5.out.setCell (p := ⟨w.heap.size + 1, 0, none⟩) (Nat.le_succ _) _).setCell (p := ⟨w.heap.size + 1, 1, none⟩) (Nat.le_succ _) _).drew)
      · rw [inB_no h2] at hin
        have hT : takeS s (k : Int) t = (noS, false) := by unfold takeS; rw [if_neg (fun h => h2 ⟨by have := h.2.2.2.1; rw [hu] at this; simp only at this; omega, h.2.2.2.2⟩)]
        rw [hT]
        rw [hs.1, hs.2.1] at hO BB b0 a0 ⊢
        clear hT hC hL2 hA hs hu hx hy hkl hkr huo h1 h2
        go_enter Try.func34, Try.ntmps34
        go_wp2_with (first
          | (go_at_call 25; refine hO.mono ?_; rintro r w2 ⟨rfl, hb2⟩; obtain ⟨⟨y0, y1⟩, f0, f1⟩ := (b0.below hb2).cells)
          | (go_at_call 59; refine (hrow _).mono ?_; rintro r w' ⟨rfl, rfl⟩)
          | (go_at_call 58; refine (hin _).mono ?_; rintro r w' ⟨rfl, rfl⟩))
        exact bodyPost_ret (v := .tuple #[.agg #[.slice none 0 0, .slice none 0 0], .bool false]) (by simp [results, Try.f34, go_sem, y0, y1]) rfl (SPost.mk2 rfl rfl (noS_own _ _) (((bel_then BB hb2).setCell (p := ⟨w.heap.size + 1, 0, none⟩) (Nat.le_succ _) _).setCell (p := ⟨w.heap.size + 1, 1, none⟩) (Nat.le_succ _) _))
    · rw [inB_no h1] at hrow
      have hT : takeS s n t = (noS, false) := by unfold takeS; rw [if_neg (fun h => h1 ⟨h.2.1, h.2.2.1⟩)]
      rw [hT]
      rw [hs.1, hs.2.1] at hO BB b0 a0 ⊢
      clear hT hC hL2 hA hs h1
      go_enter Try.func34, Try.ntmps34
      go_wp2_with (first
        | (go_at_call 25; refine hO.mono ?_; rintro r w2 ⟨rfl, hb2⟩; obtain ⟨⟨y0, y1⟩, f0, f1⟩ := (b0.below hb2).cells)
        | (go_at_call 59; refine (hrow _).mono ?_; rintro r w' ⟨rfl, rfl⟩)
        | (go_at_call 58; refine (hin _).mono ?_; rintro r w' ⟨rfl, rfl⟩))
      exact bodyPost_ret (v := .tuple #[.agg #[.slice none 0 0, .slice none 0 0], .bool false]) (by simp [results, Try.f34, go_sem, y0, y1]) rfl (SPost.mk2 rfl rfl (noS_own _ _) (((bel_then BB hb2).setCell (p := ⟨w.heap.size + 1, 0, none⟩) (Nat.le_succ _) _).setCell (p := ⟨w.heap.size + 1, 1, none⟩) (Nat.le_succ _) _))
  · rw [okS_no hs] at hO
    have hT : takeS s n t = (noS, false) := by unfold takeS; rw [if_neg (fun h => hs h.1)]
    rw [hT]
    obtain ⟨n1, hn'⟩ : ∃ n, n = s.refs.length := ⟨_, rfl⟩
    obtain ⟨m1, hm'⟩ : ∃ m, m = s.last.length := ⟨_, rfl⟩
    rw [← hn', ← hm'] at hO BB b0 a0 ⊢
    clear hn' hm' hn hm hs hA hT
    go_enter Try.func34, Try.ntmps34
    go_wp2_with (go_at_call 25; refine hO.mono ?_; rintro r w2 ⟨rfl, hb2⟩; obtain ⟨⟨y0, y1⟩, f0, f1⟩ := (b0.below hb2).cells; have hl2 := (b0.below hb2).lt)
    exact bodyPost_ret (v := .tuple #[.agg #[.slice none 0 0, .slice none 0 0], .bool false]) (by simp [results, Try.f34, go_sem, y0, y1]) rfl (SPost.mk2 rfl rfl (noS_own _ _) (((bel_then BB hb2).setCell (p := ⟨w.heap.size + 1, 0, none⟩) (Nat.le_succ _) _).setCell (p := ⟨w.heap.size + 1, 1, none⟩) (Nat.le_succ _) _))
end Go.Proofs.Ytlmemjfinpccoaa
