/-
  StoreOk, the reference's.
-/
import Derived.Test.YtmnamclndpfjnaaSOk
import Derived.Test.YtmnamclndpfjnaaSpO
import Derived.BigRegion
namespace Go.Proofs.Ytmnamclndpfjnaa
open Go.RowKit

/-- The first k pointers of both lists. -/
def topAt (s : St) (j : Nat) : Int := if j < s.gone.length then s.txg - 1 else s.keep
def AllTo (s : St) (k : Nat) : Prop := ∀ j, j < k → okAt s.sp.refs ((s.gone ++ s.dead).take j) (topAt s j) ((s.gone ++ s.dead).getD j P5.zero)
theorem AllTo.next {s : St} {k : Nat} (h : AllTo s k) (hk : okAt s.sp.refs ((s.gone ++ s.dead).take k) (topAt s k) ((s.gone ++ s.dead).getD k P5.zero)) : AllTo s (k + 1) := fun j hj => by
  by_cases e : j = k
  · subst e; exact hk
  · exact h j (by omega)
theorem refsB_iff (s : St) : refsB s = true ↔ AllTo s (s.gone.length + s.dead.length) := by
  simp only [refsB, takeB, Bool.and_eq_true, decide_eq_true_eq]
  constructor
  · rintro ⟨h1, h2⟩ j hj
    unfold topAt
    by_cases hl : j < s.gone.length
    · rw [if_pos hl, List.take_append_of_le_length (by omega), List.getD_eq_getElem?_getD, List.getElem?_append_left hl, ← List.getD_eq_getElem?_getD]
      exact h1 j hl
    · rw [if_neg hl, List.getD_eq_getElem?_getD, List.getElem?_append_right (by omega), ← List.getD_eq_getElem?_getD]
      have := h2 (j - s.gone.length) (by omega)
      rwa [show s.gone ++ s.dead.take (j - s.gone.length) = (s.gone ++ s.dead).take j by rw [List.take_append, List.take_of_length_le (by omega : s.gone.length ≤ j)]] at this
  · intro h
    refine ⟨fun j hj => ?_, fun j hj => ?_⟩
    · have := h j (by omega)
      unfold topAt at this
      rwa [if_pos hj, List.take_append_of_le_length (by omega), List.getD_eq_getElem?_getD, List.getElem?_append_left hj, ← List.getD_eq_getElem?_getD] at this
    · have := h (s.gone.length + j) (by omega)
      unfold topAt at this
      rwa [if_neg (by omega), List.getD_eq_getElem?_getD, List.getElem?_append_right (by omega), ← List.getD_eq_getElem?_getD, Nat.add_sub_cancel_left, List.take_append, List.take_of_length_le (by omega : s.gone.length ≤ s.gone.length + j), Nat.add_sub_cancel_left] at this
/-- A row of the counts of some pointers. -/
structure CntR (pre : List P5) (ys : List Int) : Prop where
  len : ys.length = 64
  at_ : ∀ i, i < 64 → ys.getD i 0 = ((cntAt pre (i : Int) : Nat) : Int)
theorem CntR.start : CntR [] (List.replicate 64 0) := ⟨by simp, fun i hi => by rw [List.getD_eq_getElem?_getD, List.getElem?_replicate, if_pos hi]; rfl⟩
theorem CntR.next {pre : List P5} {ys : List Int} {p : P5} {n : Nat} (h : CntR pre ys) (hn : n < 64) (hp : p.a = (n : Int)) : CntR (pre ++ [p]) (ys.set n (ys.getD n 0 + 1)) := by
  refine ⟨by rw [List.length_set]; exact h.len, fun i hi => ?_⟩
  rw [cntAt_snoc, hp]
  by_cases e : n = i
  · subst e
    rw [getD_set_same (by rw [h.len]; exact hn), h.at_ n hn, if_pos rfl]
    omega
  · rw [getD_set_other e, h.at_ i hi, if_neg (by omega)]
    omega
theorem refs_low {s : Sp} (h : SpOk s) : s.refs.getD 0 0 = 0 := by
  have := h.2.2 0 (by decide)
  rw [usOf_at h.1 h.2.1 0 (by decide)] at this
  unfold rowOk at this
  simp only at this
  omega
theorem own_four {W : World} {base n : Nat} {v : Value} {xs : List Int} {o1 o2 o3 o4 : Obj} {N : Nat} (h : W.ownsRow base 3 1 v n (intCells xs)) : (((((W.alloc o1).alloc o2).alloc o3).alloc o4).drewN N).ownsRow base 3 1 v n (intCells xs) :=
  own_bel h (below_drewN (bel_new (bel_new (bel_new (bel_new (Below.refl _ _) _) _) _) _) N)
theorem z64_own (W : World) : (W.alloc (.cells z64 3)).ownsRow W.heap.size 3 1 (.slice (some ⟨W.heap.size, 0, none⟩) 64 64) 64 (intCells (List.replicate 64 0)) := own_z64 W

set_option maxRecDepth 100000 in
set_option maxHeartbeats 16000000 in
theorem spec_sok (x : SA) (s : St) (w : World) (hs : SBulk s) (hA : StAt w x s) : Calls Try.prog 17 #[(.agg #[.slice x.A s.rows.length x.a, .slice x.R s.sp.refs.length x.r, .slice x.L s.sp.last.length x.l, .int .i64 s.txg, .slice x.G s.gone.length x.g, .int .i64 s.keep, .slice x.D s.dead.length x.d, .bool s.same])] w fun r w' => r = .returned (.bool (okSt s)) ∧ Below w.heap.size w w' := by
  have b0 := B8.new w 28 (.slice x.A s.rows.length x.a) (.slice x.R s.sp.refs.length x.r) (.slice x.L s.sp.last.length x.l) (.int .i64 s.txg) (.slice x.G s.gone.length x.g) (.int .i64 s.keep) (.slice x.D s.dead.length x.d) (.bool s.same)
  have B0 := bel_new (Below.refl w.heap.size w) (.cells #[.slice x.A s.rows.length x.a, .slice x.R s.sp.refs.length x.r, .slice x.L s.sp.last.length x.l, .int .i64 s.txg, .slice x.G s.gone.length x.g, .int .i64 s.keep, .slice x.D s.dead.length x.d, .bool s.same] 28)
  have h3 := spec_ok x.R x.L x.r x.l s.sp _ hs.refs hs.last (hA.sp.below B0)
  have h1 := fun W => s_in s.txg 1 900 W
  have h2 := fun W => s_in s.keep 0 (s.txg - 1) W
  have hkw := hs.keep
  by_cases h64 : s.rows.length = 64
  · have hq1 : ((64 : Int) != 64) = false := by decide
    rw [h64] at b0 B0 h3 ⊢
    cases e3 : okS s.sp with
    | false =>
      rw [okSt_parts, e3]
      rw [e3] at h3
      clear h1 h2 hs hA hkw e3 h64
      go_enter Try.func17, Try.ntmps17
      go_wp2_with (go_at_call 48; refine h3.mono ?_; rintro r w2 ⟨rfl, hb2⟩)
      go_ret
      exact ⟨by simp, bel_then B0 hb2⟩
    | true =>
      rw [e3] at h3
      have hsp : SpOk s.sp := of_decide_eq_true e3
      cases e1 : inB s.txg 1 900 with
      | false =>
        rw [okSt_parts, e1]
        rw [e1] at h1
        clear h2 hs hA hkw e1 e3 h64 hsp
        go_enter Try.func17, Try.ntmps17
        go_wp2_with (first | (go_at_call 48; refine h3.mono ?_; rintro r w2 ⟨rfl, hb2⟩; obtain ⟨x0, x1, x2, x3, x4, x5, x6, x7⟩ := (b0.below hb2).cells) | (go_at_call 49; refine (h1 _).mono ?_; rintro r w3 ⟨rfl, rfl⟩))
        go_ret
        exact ⟨rfl, bel_then B0 hb2⟩
      | true =>
        rw [e1] at h1
        have ht := inB_iff.1 e1
        cases e2 : inB s.keep 0 (s.txg - 1) with
        | false =>
          rw [okSt_parts, e1, e2]
          rw [e2] at h2
          clear hs hA hkw e1 e2 e3 h64 hsp
          go_enter Try.func17, Try.ntmps17
          go_wp2_with (first | (go_at_call 48; refine h3.mono ?_; rintro r w2 ⟨rfl, hb2⟩; obtain ⟨x0, x1, x2, x3, x4, x5, x6, x7⟩ := (b0.below hb2).cells) | (go_at_call 49; ((with_reducible refine (h1 _).mono ?_); rintro r w3 ⟨rfl, rfl⟩)) | (go_at_call 49; refine (h2 _).mono ?_; rintro r w3 ⟨rfl, rfl⟩))
          go_ret
          exact ⟨rfl, bel_then B0 hb2⟩
        | true =>
          rw [e2] at h2
          have hk9 := inB_iff.1 e2
          have hparts : okSt s = (rowsB s && refsB s) := by rw [okSt_parts, e1, e2, e3]; rfl
          rw [hparts]
          have hyes := rowsB_yes h64
          have hno := fun k (hk : k < 64) => rowsB_no (s := s) hk
          obtain ⟨xA, xa, xR, xr, xL, xl, xG, xg, xD, xd⟩ := x
          dsimp only at b0 B0 h3 ⊢
          obtain ⟨rs, hrs⟩ : ∃ rs, rs = s.sp.refs := ⟨_, rfl⟩
          obtain ⟨ls, hls⟩ : ∃ ls, ls = s.sp.last := ⟨_, rfl⟩
          obtain ⟨ts, hts⟩ : ∃ ts, ts = s.rows := ⟨_, rfl⟩
          have HF : Hid (∀ k, rowFit (s.rows.getD k Go.Proofs.Ytmnamclndpfjnaa.b0) (s.sp.refs.getD k 0, s.sp.last.getD k 0) s.txg ↔ rowFit (ts.getD k Go.Proofs.Ytmnamclndpfjnaa.b0) (rs.getD k 0, ls.getD k 0) s.txg) := Lib.hid (fun k => by rw [hrs, hls, hts])
          have HR := Lib.hid (sp_bd hsp)
          have HLO := Lib.hid (refs_low hsp)
          have HTX := Lib.hid hs.texts
          have HY := Lib.hid hyes
          have HN := Lib.hid hno
          have hl := hsp.1
          have hl2 := hsp.2.1
          rw [hl, hl2] at b0 B0 h3 ⊢
          rw [← hrs] at hl
          rw [← hls] at hl2
          rw [← hts] at h64
          have H1 := Lib.hid hl
          have H2 := Lib.hid hl2
          have H3 := Lib.hid h64
          have HRS := Lib.hid hrs
          have HTS := Lib.hid hts
          have hA1 : Lies w xA (strCells ts) := by rw [hts]; exact hA.rows
          have hA3 : Lies w xR (intCells rs) := by rw [hrs]; exact hA.sp.1
          have hA4 : Lies w xL (intCells ls) := by rw [hls]; exact hA.sp.2
          have hA5 : PArg w xG s.gone := hA.gone
          have hA6 : PArg w xD s.dead := hA.dead
          have hgl := hs.gone
          have hdl := hs.dead
          clear hA hl hl2 h64 hrs hls hts hyes hno hs e1 e2 e3 hsp hparts hkw
          go_enter Try.func17, Try.ntmps17
          go_wp2_with (first | (go_at_call 48; refine h3.mono ?_; rintro r w2 ⟨rfl, hb2⟩; obtain ⟨x0, x1, x2, x3, x4, x5, x6, x7⟩ := (b0.below hb2).cells) | (go_at_call 49; ((with_reducible refine (h1 _).mono ?_); rintro r w3 ⟨rfl, rfl⟩)) | (go_at_call 49; refine (h2 _).mono ?_; rintro r w3 ⟨rfl, rfl⟩))
          have b2 := b0.below hb2
          have B2 := bel_then B0 hb2
          clear b0 B0 hb2 h1 h2 h3 x0 x1 x2 x3 x4 x5 x6 x7
          go_loopw [3] (fun i wr => ∃ k : Nat, k ≤ 64 ∧ i = .int .i64 k ∧ RowsTo s k ∧ Below w.heap.size w wr ∧ B8 wr w.heap.size 28 (.slice xA 64 xa) (.slice xR 64 xr) (.slice xL 64 xl) (.int .i64 s.txg) (.slice xG s.gone.length xg) (.int .i64 s.keep) (.slice xD s.dead.length xd) (.bool s.same)) (fun i _ => 64 - (intOf i).toNat)
          case atStart => exact ⟨0, by omega, rfl, fun j hj => absurd hj (Nat.not_lt_zero j), B2, b2⟩
          case round =>
            obtain ⟨k, hk, rfl, hj, hB, hb⟩ := hrel
            have HJ := Lib.hid hj
            clear b2 B2 hj
            have hwl := hb.lt
            obtain ⟨x0, x1, x2, x3, x4, x5, x6, x7⟩ := hb.cells
            by_cases hlt : k < 64
            · have hk1 : k < ts.length := by have := H3.out; omega
              have hk2 : k < rs.length := by have := H1.out; omega
              have hk3 : k < ls.length := by have := H2.out; omega
              obtain ⟨b1, o1, rfl, hl1, hc1⟩ := (hA1.below hB).str k hk1
              obtain ⟨b2, o2, rfl, hl2, hc2⟩ := (hA3.below hB).int k hk2
              obtain ⟨b3, o3, rfl, hl3, hc3⟩ := (hA4.below hB).int k hk3
              have hfit := HF.out k
              rw [List.getD_eq_getElem?_getD (l := ts), List.getD_eq_getElem?_getD (l := rs), List.getD_eq_getElem?_getD (l := ls), List.getElem?_eq_getElem hk1, List.getElem?_eq_getElem hk2, List.getElem?_eq_getElem hk3, Option.getD_some, Option.getD_some, Option.getD_some] at hfit
              have htz : ts[k].size ≤ maxLen := HTX.out _ (by have := HTS.out; subst this; exact List.getElem_mem hk1)
              have hy9 : 0 ≤ rs[k] := by
                have := (HR.out k hlt).1
                have h2 := HRS.out
                subst h2
                rwa [List.getD_eq_getElem?_getD, List.getElem?_eq_getElem hk2, Option.getD_some] at this
              obtain ⟨t, ht'⟩ : ∃ t, t = ts[k] := ⟨_, rfl⟩
              obtain ⟨y, hy⟩ : ∃ y, y = rs[k] := ⟨_, rfl⟩
              obtain ⟨z, hz⟩ : ∃ z, z = ls[k] := ⟨_, rfl⟩
              rw [← ht'] at hfit hc1 htz
              rw [← hy] at hfit hc2 hy9
              rw [← hz] at hfit hc3
              have HFT := Lib.hid hfit
              have hki : (k : Int) < 64 := by omega
              unfold maxLen at htz
              clear ht' hy hz hfit hA1 hA3 hA4 hA5 hA6 hk1 hk2 hk3
              have yes : rowFit t (y, z) s.txg → Hid (RowsTo s (k + 1)) := fun h => Lib.hid (HJ.out.next (HFT.out.2 h))
              have no : ¬ rowFit t (y, z) s.txg → Hid (rowsB s = false) := fun h => Lib.hid (HN.out k hlt (fun h2 => h (HFT.out.1 h2)))
              have ddT : ((true : Bool) != true) = false := rfl
              have ddF : ((false : Bool) != false) = false := rfl
              have dTF : ((true : Bool) != false) = true := rfl
              have dFT : ((false : Bool) != true) = true := rfl
              by_cases hbig : 128 < t.size
              · have HQ := no (fun h => by have := h.1; omega)
                have hz1 : (128 : Int) < (t.size : Int) := by omega
                have d2 : decide (128 < (t.size : Int)) = true := by simpa using hz1
                clear yes no
                go_wp2_with fail
                go_quiet (fail)
                go_wp2_with fail
                go_ret
                exact ⟨by rw [HQ.out]; rfl, below_drewN hB _⟩
              · have hz1 : ¬ (128 : Int) < (t.size : Int) := by omega
                have d2 : decide (128 < (t.size : Int)) = false := by simpa using hz1
                by_cases hs0 : t.size = 0
                · obtain ⟨e1, e2⟩ := txt_no hs0
                  by_cases hy0 : y = 0
                  · have d1 : (y == 0) = true := by simpa using hy0
                    by_cases hzz : z ≤ s.txg
                    · have HOK := yes ⟨by omega, by simp only; omega, hzz⟩
                      have d3 : decide (s.txg < z) = false := by simpa using hzz
                      have d4 : ¬ s.txg < z := by omega
                      clear yes no
                      go_wp2_with fail
                      go_quiet (fail)
                      go_wp2_with fail
                      go_roundw
                      case rel => exact ⟨k + 1, by omega, by go_num, HOK.out, below_drewN hB _, hb⟩
                      case measure => simp [intOf]; omega
                    · have HQ := no (fun h => hzz h.2.2)
                      have d3 : decide (s.txg < z) = true := by simp; omega
                      have d4 : s.txg < z := by omega
                      clear yes no hzz
                      go_wp2_with fail
                      go_quiet (fail)
                      go_wp2_with fail
                      go_ret
                      exact ⟨by rw [HQ.out]; rfl, below_drewN hB _⟩
                  · have d1 : (y == 0) = false := by simpa using hy0
                    have HQ := no (fun h => hy0 (h.2.1.1 hs0))
                    clear yes no hy0
                    go_wp2_with fail
                    go_quiet (fail)
                    go_wp2_with fail
                    go_ret
                    exact ⟨by rw [HQ.out]; rfl, below_drewN hB _⟩
                · obtain ⟨e1, e2⟩ := txt_yes hs0
                  by_cases hy0 : y = 0
                  · have d1 : (y == 0) = true := by simpa using hy0
                    have HQ := no (fun h => hs0 (h.2.1.2 hy0))
                    clear yes no hy0
                    go_wp2_with fail
                    go_quiet (fail)
                    go_wp2_with fail
                    go_ret
                    exact ⟨by rw [HQ.out]; rfl, below_drewN hB _⟩
                  · have d1 : (y == 0) = false := by simpa using hy0
                    by_cases hzz : z ≤ s.txg
                    · have HOK := yes ⟨by omega, by simp only; omega, hzz⟩
                      have d3 : decide (s.txg < z) = false := by simpa using hzz
                      have d4 : ¬ s.txg < z := by omega
                      clear yes no
                      go_wp2_with fail
                      go_quiet (fail)
                      go_wp2_with fail
                      go_roundw
                      case rel => exact ⟨k + 1, by omega, by go_num, HOK.out, below_drewN hB _, hb⟩
                      case measure => simp [intOf]; omega
                    · have HQ := no (fun h => hzz h.2.2)
                      have d3 : decide (s.txg < z) = true := by simp; omega
                      have d4 : s.txg < z := by omega
                      clear yes no hzz
                      go_wp2_with fail
                      go_quiet (fail)
                      go_wp2_with fail
                      go_ret
                      exact ⟨by rw [HQ.out]; rfl, below_drewN hB _⟩
            · have hke : k = 64 := by omega
              subst hke
              have HYY := Lib.hid (HY.out HJ.out)
              clear hA1 hA4
              have hmk := make64
              obtain ⟨Z, hZ⟩ : ∃ Z, Z = z64 := ⟨_, rfl⟩
              have hzo := z64_own wr
              rw [← hZ] at hmk hzo
              have bz := hb.alloc (.cells Z 3)
              have Bz := bel_new hB (.cells Z 3)
              have hgw := Bz.size
              clear hZ
              go_wp2_with fail
              obtain ⟨wo, rfl⟩ : ∃ wo : World, wo = wr := ⟨_, rfl⟩
              have HNO : Hid (∀ j, j < s.gone.length + s.dead.length → ¬ okAt s.sp.refs ((s.gone ++ s.dead).take j) (topAt s j) ((s.gone ++ s.dead).getD j P5.zero) → refsB s = false) := Lib.hid (fun j hj h => by
                cases hr : refsB s with
                | false => rfl
                | true => exact absurd ((refsB_iff s).1 hr j hj) h)
              have HZO := Lib.hid hzo
              have HBZ := Lib.hid bz
              have HBB := Lib.hid Bz
              have hwz : w.heap.size < wo.heap.size := hwl
              have HGL := Lib.hid hA5
              clear hzo bz Bz hb hB HF HN HY H2 H3 HTS HTX ls ts x0 x1 x2 x3 x4 x5 x6 x7 hmk hgw hwl
              go_loopw [5, 6, 7] (fun i _ _ wr => ∃ (k : Nat) (ys : List Int), k ≤ s.gone.length + s.dead.length ∧ i = .int .i64 k ∧ AllTo s k ∧ CntR ((s.gone ++ s.dead).take k) ys ∧ Below w.heap.size w wr ∧ B8 wr w.heap.size 28 (.slice xA 64 xa) (.slice xR 64 xr) (.slice xL 64 xl) (.int .i64 s.txg) (.slice xG s.gone.length xg) (.int .i64 s.keep) (.slice xD s.dead.length xd) (.bool s.same) ∧ wr.ownsRow wo.heap.size 3 1 (.slice (some ⟨wo.heap.size, 0, none⟩) 64 64) 64 (intCells ys)) (fun i _ _ _ => s.gone.length + s.dead.length - (intOf i).toNat)
              case atStart => exact ⟨0, List.replicate 64 0, Nat.zero_le _, rfl, fun j hj => absurd hj (Nat.not_lt_zero j), CntR.start, HBB.out, HBZ.out, HZO.out⟩
              case round =>
                obtain ⟨k, ys, hk, rfl, hj, hcr, hB, hb, ho⟩ := hrel
                have HJ := Lib.hid hj
                have HCR := Lib.hid hcr
                clear hj hcr
                have q0 := hb.lt
                have p0 : wo.heap.size < wr.heap.size := (ho.lt _ rfl).2
                have q1 : w.heap.size < wr.heap.size + 1 := by omega
                have q2 : w.heap.size < wr.heap.size + 1 + 1 := by omega
                have q3 : w.heap.size < wr.heap.size + 1 + 1 + 1 := by omega
                have p1 : wo.heap.size < wr.heap.size + 1 := by omega
                have p2 : wo.heap.size < wr.heap.size + 1 + 1 := by omega
                have p3 : wo.heap.size < wr.heap.size + 1 + 1 + 1 := by omega
                obtain ⟨x0, x1, x2, x3, x4, x5, x6, x7⟩ := hb.cells
                by_cases hlt : k < s.gone.length + s.dead.length
                · have hki : (k : Int) < (s.gone.length : Int) + (s.dead.length : Int) := by omega
                  obtain ⟨p, hp⟩ : ∃ p, p = (s.gone ++ s.dead).getD k P5.zero := ⟨_, rfl⟩
                  have HNK := Lib.hid (HNO.out k hlt)
                  have htk : (s.gone ++ s.dead).take (k + 1) = (s.gone ++ s.dead).take k ++ [p] := by
                    have hkl : k < (s.gone ++ s.dead).length := by rw [List.length_append]; omega
                    rw [List.take_succ_eq_append_getElem hkl, hp, List.getD_eq_getElem?_getD, List.getElem?_eq_getElem hkl, Option.getD_some]
                  have HTK := Lib.hid htk
                  obtain ⟨a, b, c, d, e⟩ := p
                  have HP := Lib.hid hp
                  have hM := fun W => spec_pok a b c d e W
                  have hH := fun W => spec_hole a b c d e W
                  clear htk
                  by_cases hg : k < s.gone.length
                  · have hgi : (k : Int) < (s.gone.length : Int) := by omega
                    have htop : topAt s k = s.txg - 1 := if_pos hg
                    have hpk : s.gone[k] = ⟨a, b, c, d, e⟩ := by
                      rw [hp, List.getD_eq_getElem?_getD, List.getElem?_append_left hg, List.getElem?_eq_getElem hg, Option.getD_some]
                    obtain ⟨bb, off, rfl, hlb, z0, z1, z2, z3, z4⟩ := (hA5.below hB).five k hg hpk
                    have HTOP := Lib.hid htop
                    have hr1 : bb < wr.heap.size + 1 := by omega
                    clear hp hpk htop
                    cases hio : isOk a b c d e with
                    | false =>
                      rw [hio] at hM
                      have HQ := Lib.hid (HNK.out (fun h => by rw [← HP.out] at h; have := h.1; rw [show P5.ok ⟨a, b, c, d, e⟩ = isOk a b c d e from rfl, hio] at this; cases this))
                      clear hio hH
                      go_wp2_with (first | (go_at_call 50; refine (hM _).mono ?_; rintro r w2 ⟨rfl, rfl⟩))
                      go_ret
                      exact ⟨by rw [HYY.out, HQ.out]; rfl, bel_new (bel_new (bel_new hB _) _) _⟩
                    | true =>
                      rw [hio] at hM
                      cases hho : isHole a b c d e with
                      | true =>
                        rw [hho] at hH
                        have HQ := Lib.hid (HNK.out (fun h => by
                          rw [← HP.out] at h
                          have h0 := (P5.hole_zero (p := ⟨a, b, c, d, e⟩) hho).1
                          have := h.2.2
                          simp only at h0 this
                          subst h0
                          rw [show (0 : Int).toNat = 0 from rfl, HLO.out] at this
                          omega))
                        clear hio hho
                        go_wp2_with (first | (go_at_call 50; refine (hM _).mono ?_; rintro r w2 ⟨rfl, rfl⟩) | (go_at_call 51; refine (hH _).mono ?_; rintro r w2 ⟨rfl, rfl⟩))
                        go_ret
                        exact ⟨by rw [HYY.out, HQ.out]; rfl, bel_new (bel_new (bel_new (bel_new hB _) _) _) _⟩
                      | false =>
                        rw [hho] at hH
                        have hbd := P5.ok_bounds (p := ⟨a, b, c, d, e⟩) hio hho
                        obtain ⟨n, hn⟩ : ∃ n : Nat, a = (n : Int) := ⟨a.toNat, by have := hbd.1.1; simp only at this; omega⟩
                        subst hn
                        have hn64 : n < 64 := by have := hbd.1.2; simp only at this; omega
                        have hn64i : (n : Int) < 64 := by omega
                        have HIO := Lib.hid hio
                        clear hio hho hbd
                        by_cases hbt : b ≤ s.txg - 1
                        · have hbt2 : ¬ (s.txg - 1 < b) := by omega
                          have HBT := Lib.hid hbt
                          obtain ⟨y, hy⟩ : ∃ y, y = ys.getD n 0 := ⟨_, rfl⟩
                          have hc := ho.cellAt n (by omega)
                          have hf := ho.frozenAt n
                          rw [intCells_at ys n (by have := HCR.out.len; omega), show ys[n]'(by have := HCR.out.len; omega) = y by rw [hy, List.getD_eq_getElem?_getD, List.getElem?_eq_getElem (by have := HCR.out.len; omega), Option.getD_some]] at hc
                          have hy2 := HCR.out.at_ n hn64
                          rw [← hy] at hy2
                          have hcl := cntAt_le ((s.gone ++ s.dead).take k) (n : Int)
                          rw [List.length_take] at hcl
                          have hy9 : 0 ≤ y ∧ y ≤ 2097152 := by omega
                          obtain ⟨b2, o2, rfl, hl2w, hc2w⟩ := hA3.int n (by have := H1.out; omega)
                          have hc2 := (hB.cell (p := ⟨b2, o2 + n, none⟩) hl2w).trans hc2w
                          have hl2 : b2 < wr.heap.size := by omega
                          have hne1 : b2 ≠ wo.heap.size := by omega
                          have hne2 : wo.heap.size ≠ b2 := by omega
                          have hne3 : w.heap.size ≠ wo.heap.size := by omega
                          have hne4 : wo.heap.size ≠ w.heap.size := by omega
                          obtain ⟨u, hu⟩ : ∃ u, u = rs[n]'(by have := H1.out; omega) := ⟨_, rfl⟩
                          rw [← hu] at hc2
                          clear hc2w
                          have hu2 : s.sp.refs.getD n 0 = u := by rw [← HRS.out, List.getD_eq_getElem?_getD, List.getElem?_eq_getElem (by have := H1.out; omega), Option.getD_some, hu]
                          have HYC := Lib.hid hy2
                          have HU := Lib.hid hu2
                          have hr2 : b2 < wr.heap.size + 1 := by omega
                          have hr3 : b2 < wr.heap.size + 1 + 1 := by omega
                          have hr4 : b2 < wr.heap.size + 1 + 1 + 1 := by omega
                          have HCN := Lib.hid (HCR.out.next (p := ⟨n, b, c, d, e⟩) hn64 rfl)
                          have HYY2 := Lib.hid hy
                          have hokI : okAt s.sp.refs ((s.gone ++ s.dead).take k) (topAt s k) ((s.gone ++ s.dead).getD k P5.zero) ↔ ¬ u < y + 1 := by
                            rw [← HP.out, HTOP.out]
                            unfold okAt
                            simp only [Int.toNat_natCast]
                            rw [hu2, ← hy2]
                            constructor
                            · rintro ⟨_, _, h3⟩; omega
                            · intro h; exact ⟨HIO.out, HBT.out, by omega⟩
                          have HOI := Lib.hid hokI
                          have hst := (ho.stored n (.int .i64 (y + 1))).1
                          rw [intCells_set] at hst
                          have HST := Lib.hid hst
                          clear hst
                          clear hy hy2 hcl hu hu2 hbt hokI
                          by_cases hyu : u < y + 1
                          · have d5 : decide (u < y + 1) = true := by simpa using hyu
                            have HQ := Lib.hid (HNK.out (fun h => HOI.out.1 h hyu))
                            clear hyu
                            go_wp2_with (first | (go_at_call 50; refine (hM _).mono ?_; rintro r w2 ⟨rfl, rfl⟩) | (go_at_call 51; refine (hH _).mono ?_; rintro r w2 ⟨rfl, rfl⟩))
                            go_region
                            all_goals go_wp2_with fail
                            all_goals go_quiet (fail)
                            all_goals go_wp2_with fail
                            all_goals go_ret
                            all_goals exact ⟨by rw [HYY.out, HQ.out]; rfl, below_drewN (Below.drew (bel_new (bel_new (bel_new (bel_new (hB.setCell (p := ⟨wo.heap.size, n, none⟩) (Nat.le_of_lt hwz) _) _) _) _) _)) _⟩
                          · have d5 : decide (u < y + 1) = false := by simpa using hyu
                            have HNX := Lib.hid (HJ.out.next (HOI.out.2 hyu))
                            clear hyu
                            go_wp2_with (first | (go_at_call 50; refine (hM _).mono ?_; rintro r w2 ⟨rfl, rfl⟩) | (go_at_call 51; refine (hH _).mono ?_; rintro r w2 ⟨rfl, rfl⟩))
                            go_region
                            all_goals go_wp2_with fail
                            all_goals go_quiet (fail)
                            all_goals go_wp2_with fail
                            go_roundw
                            case rel =>
                              (repeat apply Exists.intro)
                              exact ⟨⟨k + 1, ys.set n (y + 1), by omega, by go_num, HNX.out, by rw [HTK.out, HYY2.out]; exact HCN.out, below_drewN (bel_new (bel_new (bel_new (bel_new (hB.setCell (p := ⟨wo.heap.size, n, none⟩) (Nat.le_of_lt hwz) _) _) _) _) _) _, ((((hb.set (p := ⟨wo.heap.size, n, none⟩) hne3 _).alloc _).alloc _).alloc _).alloc _, own_four HST.out⟩, rfl⟩
                            case measure => simp [intOf]; omega
                        · have hbt2 : s.txg - 1 < b := by omega
                          have HQ := Lib.hid (HNK.out (fun h => by rw [← HP.out, HTOP.out] at h; exact hbt h.2.1))
                          clear hbt
                          go_wp2_with (first | (go_at_call 50; refine (hM _).mono ?_; rintro r w2 ⟨rfl, rfl⟩) | (go_at_call 51; refine (hH _).mono ?_; rintro r w2 ⟨rfl, rfl⟩))
                          go_ret
                          exact ⟨by rw [HYY.out, HQ.out]; rfl, bel_new (bel_new (bel_new (bel_new hB _) _) _) _⟩
                  · have hgi : ¬ (k : Int) < (s.gone.length : Int) := by omega
                    have htop : topAt s k = s.keep := if_neg hg
                    obtain ⟨m, hm⟩ : ∃ m, k = s.gone.length + m := ⟨k - s.gone.length, by omega⟩
                    have hmd : m < s.dead.length := by omega
                    have hmi : (m : Int) < (s.dead.length : Int) := by omega
                    have hkm : (k : Int) - (s.gone.length : Int) = (m : Int) := by omega
                    have hpk : s.dead[m] = ⟨a, b, c, d, e⟩ := by
                      rw [hp, List.getD_eq_getElem?_getD, List.getElem?_append_right (by omega), show k - s.gone.length = m by omega, List.getElem?_eq_getElem hmd, Option.getD_some]
                    obtain ⟨bb, off, rfl, hlb, z0, z1, z2, z3, z4⟩ := (hA6.below hB).five m hmd hpk
                    have HTOP := Lib.hid htop
                    have HM := Lib.hid hm
                    have hr1 : bb < wr.heap.size + 1 := by omega
                    clear hp hpk htop hm
                    cases hio : isOk a b c d e with
                    | false =>
                      rw [hio] at hM
                      have HQ := Lib.hid (HNK.out (fun h => by rw [← HP.out] at h; have := h.1; rw [show P5.ok ⟨a, b, c, d, e⟩ = isOk a b c d e from rfl, hio] at this; cases this))
                      clear hio hH
                      go_wp2_with (first | (go_at_call 50; refine (hM _).mono ?_; rintro r w2 ⟨rfl, rfl⟩))
                      go_ret
                      exact ⟨by rw [HYY.out, HQ.out]; rfl, bel_new (bel_new (bel_new hB _) _) _⟩
                    | true =>
                      rw [hio] at hM
                      cases hho : isHole a b c d e with
                      | true =>
                        rw [hho] at hH
                        have HQ := Lib.hid (HNK.out (fun h => by
                          rw [← HP.out] at h
                          have h0 := (P5.hole_zero (p := ⟨a, b, c, d, e⟩) hho).1
                          have := h.2.2
                          simp only at h0 this
                          subst h0
                          rw [show (0 : Int).toNat = 0 from rfl, HLO.out] at this
                          omega))
                        clear hio hho
                        go_wp2_with (first | (go_at_call 50; refine (hM _).mono ?_; rintro r w2 ⟨rfl, rfl⟩) | (go_at_call 51; refine (hH _).mono ?_; rintro r w2 ⟨rfl, rfl⟩))
                        go_ret
                        exact ⟨by rw [HYY.out, HQ.out]; rfl, bel_new (bel_new (bel_new (bel_new hB _) _) _) _⟩
                      | false =>
                        rw [hho] at hH
                        have hbd := P5.ok_bounds (p := ⟨a, b, c, d, e⟩) hio hho
                        obtain ⟨n, hn⟩ : ∃ n : Nat, a = (n : Int) := ⟨a.toNat, by have := hbd.1.1; simp only at this; omega⟩
                        subst hn
                        have hn64 : n < 64 := by have := hbd.1.2; simp only at this; omega
                        have hn64i : (n : Int) < 64 := by omega
                        have HIO := Lib.hid hio
                        clear hio hho hbd
                        by_cases hbt : b ≤ s.keep
                        · have hbt2 : ¬ (s.keep < b) := by omega
                          have HBT := Lib.hid hbt
                          obtain ⟨y, hy⟩ : ∃ y, y = ys.getD n 0 := ⟨_, rfl⟩
                          have hc := ho.cellAt n (by omega)
                          have hf := ho.frozenAt n
                          rw [intCells_at ys n (by have := HCR.out.len; omega), show ys[n]'(by have := HCR.out.len; omega) = y by rw [hy, List.getD_eq_getElem?_getD, List.getElem?_eq_getElem (by have := HCR.out.len; omega), Option.getD_some]] at hc
                          have hy2 := HCR.out.at_ n hn64
                          rw [← hy] at hy2
                          have hcl := cntAt_le ((s.gone ++ s.dead).take k) (n : Int)
                          rw [List.length_take] at hcl
                          have hy9 : 0 ≤ y ∧ y ≤ 2097152 := by omega
                          obtain ⟨b2, o2, rfl, hl2w, hc2w⟩ := hA3.int n (by have := H1.out; omega)
                          have hc2 := (hB.cell (p := ⟨b2, o2 + n, none⟩) hl2w).trans hc2w
                          have hl2 : b2 < wr.heap.size := by omega
                          have hne1 : b2 ≠ wo.heap.size := by omega
                          have hne2 : wo.heap.size ≠ b2 := by omega
                          have hne3 : w.heap.size ≠ wo.heap.size := by omega
                          have hne4 : wo.heap.size ≠ w.heap.size := by omega
                          obtain ⟨u, hu⟩ : ∃ u, u = rs[n]'(by have := H1.out; omega) := ⟨_, rfl⟩
                          rw [← hu] at hc2
                          clear hc2w
                          have hu2 : s.sp.refs.getD n 0 = u := by rw [← HRS.out, List.getD_eq_getElem?_getD, List.getElem?_eq_getElem (by have := H1.out; omega), Option.getD_some, hu]
                          have HYC := Lib.hid hy2
                          have HU := Lib.hid hu2
                          have hr2 : b2 < wr.heap.size + 1 := by omega
                          have hr3 : b2 < wr.heap.size + 1 + 1 := by omega
                          have hr4 : b2 < wr.heap.size + 1 + 1 + 1 := by omega
                          have HCN := Lib.hid (HCR.out.next (p := ⟨n, b, c, d, e⟩) hn64 rfl)
                          have HYY2 := Lib.hid hy
                          have hokI : okAt s.sp.refs ((s.gone ++ s.dead).take k) (topAt s k) ((s.gone ++ s.dead).getD k P5.zero) ↔ ¬ u < y + 1 := by
                            rw [← HP.out, HTOP.out]
                            unfold okAt
                            simp only [Int.toNat_natCast]
                            rw [hu2, ← hy2]
                            constructor
                            · rintro ⟨_, _, h3⟩; omega
                            · intro h; exact ⟨HIO.out, HBT.out, by omega⟩
                          have HOI := Lib.hid hokI
                          have hst := (ho.stored n (.int .i64 (y + 1))).1
                          rw [intCells_set] at hst
                          have HST := Lib.hid hst
                          clear hst
                          clear hy hy2 hcl hu hu2 hbt hokI
                          by_cases hyu : u < y + 1
                          · have d5 : decide (u < y + 1) = true := by simpa using hyu
                            have HQ := Lib.hid (HNK.out (fun h => HOI.out.1 h hyu))
                            clear hyu
                            go_wp2_with (first | (go_at_call 50; refine (hM _).mono ?_; rintro r w2 ⟨rfl, rfl⟩) | (go_at_call 51; refine (hH _).mono ?_; rintro r w2 ⟨rfl, rfl⟩))
                            go_region
                            all_goals go_wp2_with fail
                            all_goals go_quiet (fail)
                            all_goals go_wp2_with fail
                            all_goals go_ret
                            all_goals exact ⟨by rw [HYY.out, HQ.out]; rfl, below_drewN (Below.drew (bel_new (bel_new (bel_new (bel_new (hB.setCell (p := ⟨wo.heap.size, n, none⟩) (Nat.le_of_lt hwz) _) _) _) _) _)) _⟩
                          · have d5 : decide (u < y + 1) = false := by simpa using hyu
                            have HNX := Lib.hid (HJ.out.next (HOI.out.2 hyu))
                            clear hyu
                            go_wp2_with (first | (go_at_call 50; refine (hM _).mono ?_; rintro r w2 ⟨rfl, rfl⟩) | (go_at_call 51; refine (hH _).mono ?_; rintro r w2 ⟨rfl, rfl⟩))
                            go_region
                            all_goals go_wp2_with fail
                            all_goals go_quiet (fail)
                            all_goals go_wp2_with fail
                            go_roundw
                            case rel =>
                              (repeat apply Exists.intro)
                              exact ⟨⟨k + 1, ys.set n (y + 1), by omega, by go_num, HNX.out, by rw [HTK.out, HYY2.out]; exact HCN.out, below_drewN (bel_new (bel_new (bel_new (bel_new (hB.setCell (p := ⟨wo.heap.size, n, none⟩) (Nat.le_of_lt hwz) _) _) _) _) _) _, ((((hb.set (p := ⟨wo.heap.size, n, none⟩) hne3 _).alloc _).alloc _).alloc _).alloc _, own_four HST.out⟩, rfl⟩
                            case measure => simp [intOf]; omega
                        · have hbt2 : s.keep < b := by omega
                          have HQ := Lib.hid (HNK.out (fun h => by rw [← HP.out, HTOP.out] at h; exact hbt h.2.1))
                          clear hbt
                          go_wp2_with (first | (go_at_call 50; refine (hM _).mono ?_; rintro r w2 ⟨rfl, rfl⟩) | (go_at_call 51; refine (hH _).mono ?_; rintro r w2 ⟨rfl, rfl⟩))
                          go_ret
                          exact ⟨by rw [HYY.out, HQ.out]; rfl, bel_new (bel_new (bel_new (bel_new hB _) _) _) _⟩
                · have hke : k = s.gone.length + s.dead.length := by omega
                  subst hke
                  have HYE := Lib.hid ((refsB_iff s).2 HJ.out)
                  clear hA5 hA6
                  go_wp2_with fail
                  go_ret
                  exact ⟨by rw [HYY.out, HYE.out]; rfl, hB⟩
  · have hq1 : ((s.rows.length : Int) != 64) = true := by simp; omega
    rw [okSt_parts, rowsB_len h64]
    clear h1 h2 h3 h64 hA hs hkw
    go_enter Try.func17, Try.ntmps17
    go_wp2_with fail
    go_ret
    exact ⟨by simp, B0⟩
end Go.Proofs.Ytmnamclndpfjnaa
