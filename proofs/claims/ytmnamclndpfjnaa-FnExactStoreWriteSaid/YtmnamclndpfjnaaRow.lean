/-
  Whether the rows of a store have texts just where they are used.
-/
import Derived.Test.YtmnamclndpfjnaaRef
namespace Go.Proofs.Ytmnamclndpfjnaa
open Go.RowKit

theorem txt_no {r : ByteArray} (h : r.size = 0) : (!r.toList.isEmpty) = false ∧ r.toList.isEmpty = true := by
  obtain ⟨⟨l⟩⟩ := r
  have hl : l.length = 0 := h
  have hn : l = [] := List.length_eq_zero_iff.1 hl
  subst hn
  rw [ByteArray.toList_eq]
  exact ⟨rfl, rfl⟩
theorem txt_yes {r : ByteArray} (h : r.size ≠ 0) : (!r.toList.isEmpty) = true ∧ r.toList.isEmpty = false := by
  obtain ⟨⟨l⟩⟩ := r
  have hl : l.length ≠ 0 := h
  rw [ByteArray.toList_eq]
  cases l with
  | nil => exact absurd rfl hl
  | cons a l => exact ⟨rfl, rfl⟩
def RowsTo (s : St) (k : Nat) : Prop := ∀ i, i < k → rowFit (s.rows.getD i b0) (s.sp.refs.getD i 0, s.sp.last.getD i 0) s.txg
def rowsB (s : St) : Bool := decide (s.rows.length = 64 ∧ RowsOk s)
theorem RowsTo.next {s : St} {k : Nat} (h : RowsTo s k) (hk : rowFit (s.rows.getD k b0) (s.sp.refs.getD k 0, s.sp.last.getD k 0) s.txg) : RowsTo s (k + 1) := fun i hi => by
  by_cases e : i = k
  · subst e; exact hk
  · exact h i (by omega)
theorem rowsB_yes {s : St} (h1 : s.rows.length = 64) (h : RowsTo s 64) : rowsB s = true := decide_eq_true ⟨h1, h⟩
theorem rowsB_no {s : St} {k : Nat} (hk : k < 64) (h : ¬ rowFit (s.rows.getD k b0) (s.sp.refs.getD k 0, s.sp.last.getD k 0) s.txg) : rowsB s = false := decide_eq_false (fun h2 => h (h2.2 k hk))
theorem rowsB_len {s : St} (h : s.rows.length ≠ 64) : rowsB s = false := decide_eq_false (fun h2 => h h2.1)

set_option maxRecDepth 100000 in
set_option maxHeartbeats 8000000 in
theorem impl_rows (x : SA) (s : St) (w : World) (hl : s.sp.refs.length = 64) (hl2 : s.sp.last.length = 64) (hR : ∀ i, i < 64 → 0 ≤ s.sp.refs.getD i 0 ∧ s.sp.refs.getD i 0 ≤ 900) (hn : s.rows.length ≤ 1048576) (ht : ∀ t ∈ s.rows, t.size ≤ maxLen) (hA : StAt w x s) :
    Calls Try.prog 87 #[(.agg #[.slice x.A s.rows.length x.a, .slice x.R s.sp.refs.length x.r, .slice x.L s.sp.last.length x.l, .int .i64 s.txg, .slice x.G s.gone.length x.g, .int .i64 s.keep, .slice x.D s.dead.length x.d, .bool s.same])] w fun r w' => r = .returned (.bool (rowsB s)) ∧ Below w.heap.size w w' := by
  obtain ⟨xA, xa, xR, xr, xL, xl, xG, xg, xD, xd⟩ := x
  dsimp only
  have b0 := B8.new w 28 (.slice xA s.rows.length xa) (.slice xR s.sp.refs.length xr) (.slice xL s.sp.last.length xl) (.int .i64 s.txg) (.slice xG s.gone.length xg) (.int .i64 s.keep) (.slice xD s.dead.length xd) (.bool s.same)
  have B0 := bel_new (Below.refl w.heap.size w) (.cells #[.slice xA s.rows.length xa, .slice xR s.sp.refs.length xr, .slice xL s.sp.last.length xl, .int .i64 s.txg, .slice xG s.gone.length xg, .int .i64 s.keep, .slice xD s.dead.length xd, .bool s.same] 28)
  by_cases h64 : s.rows.length = 64
  · have hyes := rowsB_yes h64
    have hno := fun k (hk : k < 64) => rowsB_no (s := s) hk
    have hat : ∀ k, k < 64 → s.rows.getD k Go.Proofs.Ytmnamclndpfjnaa.b0 = s.rows.getD k Go.Proofs.Ytmnamclndpfjnaa.b0 := fun _ _ => rfl
    have hA1 := hA.rows
    have hA2 := hA.sp
    obtain ⟨rs, hrs⟩ : ∃ rs, rs = s.sp.refs := ⟨_, rfl⟩
    obtain ⟨ls, hls⟩ : ∃ ls, ls = s.sp.last := ⟨_, rfl⟩
    obtain ⟨ts, hts⟩ : ∃ ts, ts = s.rows := ⟨_, rfl⟩
    have HF : Hid (∀ k, rowFit (s.rows.getD k Go.Proofs.Ytmnamclndpfjnaa.b0) (s.sp.refs.getD k 0, s.sp.last.getD k 0) s.txg ↔ rowFit (ts.getD k Go.Proofs.Ytmnamclndpfjnaa.b0) (rs.getD k 0, ls.getD k 0) s.txg) := Lib.hid (fun k => by rw [hrs, hls, hts])
    obtain ⟨q, hq⟩ : ∃ q, q = rowsB s := ⟨_, rfl⟩
    rw [← hq] at hyes hno
    rw [← hq]
    have HR := Lib.hid hR
    have HTX := Lib.hid ht
    have HY := Lib.hid hyes
    have HN := Lib.hid hno
    rw [hl, hl2, h64] at b0 B0 ⊢
    rw [← hrs] at hl
    rw [← hls] at hl2
    rw [← hts] at h64
    have H1 := Lib.hid hl
    have H2 := Lib.hid hl2
    have H3 := Lib.hid h64
    have HRS := Lib.hid hrs
    have HTS := Lib.hid hts
    have hA1 : Lies w xA (strCells ts) := by rw [hts]; exact hA.rows
    have hA3 : Lies w xR (intCells rs) := by rw [hrs]; exact hA.sp.1
    have hA4 : Lies w xL (intCells ls) := by rw [hls]; exact hA.sp.2
    have hq1 : ((64 : Int) != 64) = false := by decide
    clear hA hA2 hl hl2 h64 hrs hls hts hq hyes hno hat hR ht hn
    go_enter Try.func87, Try.ntmps87
    go_wp2_with fail
    go_loopw [3, 4, 5, 13] (fun _ _ _ i wr => ∃ k : Nat, k ≤ 64 ∧ i = .int .i64 k ∧ RowsTo s k ∧ Below w.heap.size w wr ∧ B8 wr w.heap.size 28 (.slice xA 64 xa) (.slice xR 64 xr) (.slice xL 64 xl) (.int .i64 s.txg) (.slice xG s.gone.length xg) (.int .i64 s.keep) (.slice xD s.dead.length xd) (.bool s.same)) (fun _ _ _ i _ => 64 - (intOf i).toNat)
    case atStart => exact ⟨0, by omega, rfl, fun j hj => absurd hj (Nat.not_lt_zero j), B0, b0⟩
    case round =>
      obtain ⟨k, hk, rfl, hj, hB, hb⟩ := hrel
      have HJ := Lib.hid hj
      clear b0 B0 hj
      have hwl := hb.lt
      obtain ⟨x0, x1, x2, x3, x4, x5, x6, x7⟩ := hb.cells
      by_cases hlt : k < 64
      · have hk1 : k < ts.length := by have := H3.out; omega
        have hk2 : k < rs.length := by have := H1.out; omega
        have hk3 : k < ls.length := by have := H2.out; omega
        obtain ⟨b1, o1, rfl, hl1, hc1⟩ := (hA1.below hB).str k hk1
        obtain ⟨b2, o2, rfl, hl2, hc2⟩ := (hA3.below hB).int k hk2
        obtain ⟨b3, o3, rfl, hl3, hc3⟩ := (hA4.below hB).int k hk3
        have hfit := HF.out k
        rw [List.getD_eq_getElem?_getD (l := ts), List.getD_eq_getElem?_getD (l := rs), List.getD_eq_getElem?_getD (l := ls), List.getElem?_eq_getElem hk1, List.getElem?_eq_getElem hk2, List.getElem?_eq_getElem hk3, Option.getD_some, Option.getD_some, Option.getD_some] at hfit
        have htz : ts[k].size ≤ maxLen := HTX.out _ (by have := HTS.out; subst this; exact List.getElem_mem hk1)
        have hy9 : 0 ≤ rs[k] := by
          have := (HR.out k hlt).1
          have h2 := HRS.out
          subst h2
          rwa [List.getD_eq_getElem?_getD, List.getElem?_eq_getElem hk2, Option.getD_some] at this
        obtain ⟨t, ht⟩ : ∃ t, t = ts[k] := ⟨_, rfl⟩
        obtain ⟨y, hy⟩ : ∃ y, y = rs[k] := ⟨_, rfl⟩
        obtain ⟨z, hz⟩ : ∃ z, z = ls[k] := ⟨_, rfl⟩
        rw [← ht] at hfit hc1 htz
        rw [← hy] at hfit hc2 hy9
        rw [← hz] at hfit hc3
        have HFT := Lib.hid hfit
        have hki : (k : Int) < 64 := by omega
        unfold maxLen at htz
        clear ht hy hz hfit hA1 hA3 hA4 hk1 hk2 hk3
        have yes : rowFit t (y, z) s.txg → Hid (RowsTo s (k + 1)) := fun h => Lib.hid (HJ.out.next (HFT.out.2 h))
        have no : ¬ rowFit t (y, z) s.txg → Hid (q = false) := fun h => Lib.hid (HN.out k hlt (fun h2 => h (HFT.out.1 h2)))
        have ddT : ((true : Bool) != true) = false := rfl
        have ddF : ((false : Bool) != false) = false := rfl
        have dTF : ((true : Bool) != false) = true := rfl
        have dFT : ((false : Bool) != true) = true := rfl
        by_cases hs0 : t.size = 0
        · obtain ⟨e1, e2⟩ := txt_no hs0
          by_cases hy0 : 0 < y
          · have HQ := no (fun h => by have := h.2.1.1 hs0; omega)
            have d1 : decide (0 < y) = true := by simpa using hy0
            clear yes no
            go_wp2_with fail
            go_quiet (fail)
            go_wp2_with fail
            go_ret
            exact ⟨by rw [HQ.out]; rfl, below_drewN hB _⟩
          · have d1 : decide (0 < y) = false := by simpa using hy0
            have hz0 : ¬ 128 < t.size := by omega
            have hz1 : ¬ (128 : Int) < (t.size : Int) := by omega
            have d2 : decide (128 < (t.size : Int)) = false := by simpa using hz1
            by_cases hzz : z ≤ s.txg
            · have HOK := yes (by refine ⟨by omega, by omega, hzz⟩)
              have d3 : decide (s.txg < z) = false := by simpa using hzz
              have d4 : ¬ s.txg < z := by omega
              clear yes no
              go_wp2_with fail
              go_quiet (fail)
              go_wp2_with fail
              go_roundw
              case rel => exact ⟨k + 1, by omega, by go_num, HOK.out, below_drewN hB _, hb⟩
              case measure => simp [intOf]; omega
            · have HQ := no (fun h => hzz h.2.2)
              have d3 : decide (s.txg < z) = true := by simp; omega
              have d4 : s.txg < z := by omega
              clear yes no hzz
              go_wp2_with fail
              go_quiet (fail)
              go_wp2_with fail
              go_ret
              exact ⟨by rw [HQ.out]; rfl, below_drewN hB _⟩
        · obtain ⟨e1, e2⟩ := txt_yes hs0
          by_cases hy0 : 0 < y
          · have d1 : decide (0 < y) = true := by simpa using hy0
            by_cases hbig : 128 < t.size
            · have HQ := no (fun h => by have := h.1; omega)
              have hz1 : (128 : Int) < (t.size : Int) := by omega
              have d2 : decide (128 < (t.size : Int)) = true := by simpa using hz1
              clear yes no
              go_wp2_with fail
              go_quiet (fail)
              go_wp2_with fail
              go_ret
              exact ⟨by rw [HQ.out]; rfl, below_drewN hB _⟩
            · have hz1 : ¬ (128 : Int) < (t.size : Int) := by omega
              have d2 : decide (128 < (t.size : Int)) = false := by simpa using hz1
              by_cases hzz : z ≤ s.txg
              · have HOK := yes (by refine ⟨by omega, by simp only; omega, hzz⟩)
                have d3 : decide (s.txg < z) = false := by simpa using hzz
                have d4 : ¬ s.txg < z := by omega
                clear yes no
                go_wp2_with fail
                go_quiet (fail)
                go_wp2_with fail
                go_roundw
                case rel => exact ⟨k + 1, by omega, by go_num, HOK.out, below_drewN hB _, hb⟩
                case measure => simp [intOf]; omega
              · have HQ := no (fun h => hzz h.2.2)
                have d3 : decide (s.txg < z) = true := by simp; omega
                have d4 : s.txg < z := by omega
                clear yes no hzz
                go_wp2_with fail
                go_quiet (fail)
                go_wp2_with fail
                go_ret
                exact ⟨by rw [HQ.out]; rfl, below_drewN hB _⟩
          · have HQ := no (fun h => hs0 (h.2.1.2 (by simp only; omega)))
            have d1 : decide (0 < y) = false := by simpa using hy0
            clear yes no
            go_wp2_with fail
            go_quiet (fail)
            go_wp2_with fail
            go_ret
            exact ⟨by rw [HQ.out]; rfl, below_drewN hB _⟩
      · have hke : k = 64 := by omega
        subst hke
        have HYY := Lib.hid (HY.out HJ.out)
        go_wp2_with fail
        go_ret
        exact ⟨by rw [HYY.out]; rfl, hB⟩
  · have hno := rowsB_len h64
    have hq1 : ((s.rows.length : Int) != 64) = true := by simp; omega
    rw [hno]
    clear hno h64 hA hn ht hR hl hl2
    go_enter Try.func87, Try.ntmps87
    go_wp2_with fail
    go_ret
    exact ⟨rfl, B0⟩
end Go.Proofs.Ytmnamclndpfjnaa
