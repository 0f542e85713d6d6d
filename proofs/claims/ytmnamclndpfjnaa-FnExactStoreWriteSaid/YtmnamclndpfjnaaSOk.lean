/-
  StoreOk, the program's.
-/
import Derived.Test.YtmnamclndpfjnaaRow
namespace Go.Proofs.Ytmnamclndpfjnaa
open Go.RowKit

theorem okSt_parts (s : St) : okSt s = (inB s.txg 1 900 && (inB s.keep 0 (s.txg - 1) && (okS s.sp && (rowsB s && refsB s)))) := by
  rw [Bool.eq_iff_iff]
  simp only [okSt, inB, okS, rowsB, refsB, takeB, Bool.and_eq_true, decide_eq_true_eq]
  constructor
  · intro h
    exact ⟨h.txg, h.keep, h.sp, ⟨h.len, h.rows⟩, h.gone, h.dead⟩
  · rintro ⟨h1, h2, h3, ⟨h4, h5⟩, h6, h7⟩
    exact ⟨h4, h3, h1, h2, h5, h6, h7⟩
theorem sp_bd {s : Sp} (h : SpOk s) : ∀ i, i < 64 → 0 ≤ s.refs.getD i 0 ∧ s.refs.getD i 0 ≤ 900 := fun i hi => by
  have := h.2.2 i hi
  rw [usOf_at h.1 h.2.1 i hi] at this
  unfold rowOk at this
  simp only at this
  omega

set_option maxRecDepth 100000 in
set_option maxHeartbeats 4000000 in
theorem impl_mok (x : SA) (s : St) (w : World) (hs : SBulk s) (hA : StAt w x s) : Calls Try.prog 55 #[(.agg #[.slice x.A s.rows.length x.a, .slice x.R s.sp.refs.length x.r, .slice x.L s.sp.last.length x.l, .int .i64 s.txg, .slice x.G s.gone.length x.g, .int .i64 s.keep, .slice x.D s.dead.length x.d, .bool s.same])] w fun r w' => r = .returned (.bool (okSt s)) ∧ Below w.heap.size w w' := by
  rw [okSt_parts]
  have b0 := B8.new w 28 (.slice x.A s.rows.length x.a) (.slice x.R s.sp.refs.length x.r) (.slice x.L s.sp.last.length x.l) (.int .i64 s.txg) (.slice x.G s.gone.length x.g) (.int .i64 s.keep) (.slice x.D s.dead.length x.d) (.bool s.same)
  have B0 := bel_new (Below.refl w.heap.size w) (.cells #[.slice x.A s.rows.length x.a, .slice x.R s.sp.refs.length x.r, .slice x.L s.sp.last.length x.l, .int .i64 s.txg, .slice x.G s.gone.length x.g, .int .i64 s.keep, .slice x.D s.dead.length x.d, .bool s.same] 28)
  have h1 := fun W => i_in s.txg 1 900 W
  have h2 := fun W => i_in s.keep 0 (s.txg - 1) W
  have h3 := impl_ok x.R x.L x.r x.l s.sp _ hs.refs hs.last (hA.sp.below B0)
  have hk := hs.keep
  cases e1 : inB s.txg 1 900 with
  | false =>
    rw [e1] at h1
    clear h2 h3 hs hA hk e1
    go_enter Try.func55, Try.ntmps55
    go_wp2_with (go_at_call 63; refine (h1 _).mono ?_; rintro r w2 ⟨rfl, rfl⟩)
    go_ret
    exact ⟨rfl, B0⟩
  | true =>
    rw [e1] at h1
    have ht := inB_iff.1 e1
    cases e2 : inB s.keep 0 (s.txg - 1) with
    | false =>
      rw [e2] at h2
      clear h3 hs hA hk e1 e2
      go_enter Try.func55, Try.ntmps55
      go_wp2_with (first | (go_at_call 63; ((with_reducible refine (h1 _).mono ?_); rintro r w2 ⟨rfl, rfl⟩)) | (go_at_call 63; refine (h2 _).mono ?_; rintro r w2 ⟨rfl, rfl⟩))
      go_ret
      exact ⟨rfl, B0⟩
    | true =>
      rw [e2] at h2
      cases e3 : okS s.sp with
      | false =>
        rw [e3] at h3
        clear hs hA hk e1 e2 e3
        go_enter Try.func55, Try.ntmps55
        go_wp2_with (first | (go_at_call 63; ((with_reducible refine (h1 _).mono ?_); rintro r w2 ⟨rfl, rfl⟩)) | (go_at_call 63; refine (h2 _).mono ?_; rintro r w2 ⟨rfl, rfl⟩) | (go_at_call 86; refine h3.mono ?_; rintro r w2 ⟨rfl, hb2⟩))
        go_ret
        exact ⟨rfl, bel_then B0 hb2⟩
      | true =>
        rw [e3] at h3
        have hsp : SpOk s.sp := of_decide_eq_true e3
        have h4 := fun W (hW : Below w.heap.size w W) => impl_rows x s W hsp.1 hsp.2.1 (sp_bd hsp) hs.rows hs.texts (hA.below hW)
        have h5 := fun W (hW : Below w.heap.size w W) => impl_refs x s W hsp.1 (sp_bd hsp) ht hs.gone hs.dead (hA.below hW)
        clear hk e1 e2 e3 hsp hs hA
        go_enter Try.func55, Try.ntmps55
        go_wp2_with (first | (go_at_call 63; ((with_reducible refine (h1 _).mono ?_); rintro r w2 ⟨rfl, rfl⟩)) | (go_at_call 63; refine (h2 _).mono ?_; rintro r w2 ⟨rfl, rfl⟩) | (go_at_call 86; refine h3.mono ?_; rintro r w2 ⟨rfl, hb2⟩; refine Hid.out ?_))
        refine Lib.hid ?_
        have b2 := b0.below hb2
        have B2 := bel_then B0 hb2
        have L := h4 w2 B2
        obtain ⟨x0, x1, x2, x3, x4, x5, x6, x7⟩ := b2.cells
        clear h1 h2 h3 h4 b0 B0 hb2
        cases e4 : rowsB s with
        | false =>
          rw [e4] at L
          have HE4 := Lib.hid e4
          clear e4 h5
          go_wp2_with (go_at_call 87; refine L.mono ?_; rintro r w3 ⟨rfl, hb3⟩)
          go_ret
          exact ⟨by rw [HE4.out]; rfl, bel_then B2 hb3⟩
        | true =>
          rw [e4] at L
          have HE4 := Lib.hid e4
          clear e4
          go_wp2_with (go_at_call 87; refine L.mono ?_; rintro r w3 ⟨rfl, hb3⟩; refine Hid.out ?_)
          refine Lib.hid ?_
          have b3 := b2.below hb3
          have B3 := bel_then B2 hb3
          have L2 := h5 w3 B3
          clear L b2 B2 hb3 h5 x0 x1 x2 x3 x4 x5 x6 x7
          obtain ⟨x0, x1, x2, x3, x4, x5, x6, x7⟩ := b3.cells
          go_wp2_with (go_at_call 88; refine L2.mono ?_; rintro r w4 ⟨rfl, hb4⟩)
          go_ret
          exact ⟨by rw [HE4.out]; rfl, bel_then B3 hb4⟩

set_option maxRecDepth 100000 in
theorem impl_sok (x : SA) (s : St) (w : World) (hs : SBulk s) (hA : StAt w x s) : Calls Try.prog 19 #[(.agg #[.slice x.A s.rows.length x.a, .slice x.R s.sp.refs.length x.r, .slice x.L s.sp.last.length x.l, .int .i64 s.txg, .slice x.G s.gone.length x.g, .int .i64 s.keep, .slice x.D s.dead.length x.d, .bool s.same])] w fun r w' => r = .returned (.bool (okSt s)) ∧ Below w.heap.size w w' := by
  have B0 := bel_new (Below.refl w.heap.size w) (.cells #[.slice x.A s.rows.length x.a, .slice x.R s.sp.refs.length x.r, .slice x.L s.sp.last.length x.l, .int .i64 s.txg, .slice x.G s.gone.length x.g, .int .i64 s.keep, .slice x.D s.dead.length x.d, .bool s.same] 28)
  have h := impl_mok x s _ hs (hA.below B0)
  clear hs hA
  go_enter Try.func19, Try.ntmps19
  go_wp2_with (go_at_call 55; refine h.mono ?_; rintro r w2 ⟨rfl, hb2⟩)
  go_ret
  exact ⟨rfl, bel_then B0 hb2⟩
end Go.Proofs.Ytmnamclndpfjnaa
