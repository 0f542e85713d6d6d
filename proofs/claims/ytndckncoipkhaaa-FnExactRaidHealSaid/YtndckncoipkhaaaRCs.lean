/-
  A set of disks behind a power failure, as the reference says.
-/
import Derived.Test.YtndckncoipkhaaaKI
import Derived.Test.YtndckncoipkhaaaKC
namespace Go.Proofs.Ytndckncoipkhaaa
open Go.RowKit

/-- Each disk fails by its own mask. -/
def crL (R : List Dk) (ms ts : List Int) : List Dk := (List.range R.length).map fun j => crashD (R.getD j dk0) (ms.getD j 0) (ts.getD j 0)
theorem crL_len (R : List Dk) (ms ts : List Int) : (crL R ms ts).length = R.length := by simp [crL]
theorem crL_at (R : List Dk) (ms ts : List Int) (j : Nat) (h : j < R.length) (hm : j < ms.length) (ht : j < ts.length) : (crL R ms ts)[j]'(by rw [crL_len]; exact h) = crashD R[j] ms[j] ts[j] := by
  simp [crL, List.getD_eq_getElem?_getD, h, hm, ht]
def GoodM (R : List Dk) (ms ts : List Int) : Prop := RsOk R ∧ ms.length = 3 ∧ ts.length = 3 ∧ ∀ m ∈ ms, 0 ≤ m
instance (R : List Dk) (ms ts : List Int) : Decidable (GoodM R ms ts) := by unfold GoodM; infer_instance
def crashR (R : List Dk) (ms ts : List Int) : List Dk := if GoodM R ms ts then crL R ms ts else []
theorem crashR_yes {R : List Dk} {ms ts : List Int} (h : GoodM R ms ts) : crashR R ms ts = crL R ms ts := if_pos h
theorem crashR_no {R : List Dk} {ms ts : List Int} (h : ¬ GoodM R ms ts) : crashR R ms ts = [] := if_neg h
/-- The first k disks of a set are those of another. -/
def partT (T R : List Dk) (k : Nat) : List Dk := T.take k ++ R.drop k
theorem partT_zero (T R : List Dk) : partT T R 0 = R := by simp [partT]
theorem partT_all {T R : List Dk} (h : T.length = R.length) : partT T R R.length = T := by
  unfold partT
  rw [List.drop_length, List.append_nil, ← h, List.take_length]
theorem partT_next {T R : List Dk} (hl : T.length = R.length) {k : Nat} (h : k < R.length) : (partT T R k).set k (T[k]'(by omega)) = partT T R (k + 1) := by
  unfold partT
  have h2 : (T.take k).length = k := by simp; omega
  rw [List.set_append_right _ _ (by omega), h2, Nat.sub_self, List.drop_eq_getElem_cons h, List.set_cons_zero, List.take_succ_eq_append_getElem (by omega), List.append_assoc]
  rfl

def posTo (ms : List Int) (k : Nat) : Prop := ∀ j (h : j < ms.length), j < k → 0 ≤ ms[j]
theorem posTo_all {ms : List Int} (h : posTo ms ms.length) : ∀ m ∈ ms, 0 ≤ m := fun m hm => by
  obtain ⟨j, hj, rfl⟩ := List.getElem_of_mem hm
  exact h j hj hj

set_option maxRecDepth 100000 in
set_option maxHeartbeats 8000000 in
theorem spec_rcrash (A : Option Addr) (cap : Nat) (ps : List RD) (M : Option Addr) (mc : Nat) (ms : List Int) (T : Option Addr) (tc : Nat) (ts : List Int) (w : World) (hn : ps.length ≤ 1048576) (hf : ∀ p ∈ ps, Bulk p.d) (hA : RAt w A ps) (hml : ms.length ≤ 1048576) (htl : ts.length ≤ 1048576) (hM : Lies w M (intCells ms)) (hT : Lies w T (intCells ts)) (hmb : ∀ m ∈ ms, m ≤ 9223372036854775807) :
    Calls Try.prog 29 #[.agg #[.slice A ps.length cap], .slice M ms.length mc, .slice T ts.length tc] w (RPostK (crashR (dks ps) ms ts) w) := by
  have bl : Below w.heap.size w ((w.alloc (.cells #[.slice A ps.length cap] 24)).alloc (.cells #[.slice none 0 0] 24)) := bel_new (bel_new (Below.refl _ _) _) _
  have b0 := (B1.new w 24 (.slice A ps.length cap)).alloc (.cells #[.slice none 0 0] 24)
  have b1 := B1.new (w.alloc (.cells #[.slice A ps.length cap] 24)) 24 (.slice none 0 0)
  rw [World.size_alloc] at b1
  have hH := spec_rok A cap ps _ hn hf (hA.below bl)
  by_cases hok : RsOk (dks ps)
  · rw [okR_yes hok] at hH
    by_cases hm3 : ms.length = 3
    · by_cases ht3 : ts.length = 3
      · have h3 : Hid (ps.length = 3) := Lib.hid (by have := hok.1; rwa [dks_len] at this)
        have HOK := Lib.hid hok
        have HM3 := Lib.hid hm3
        have HT3 := Lib.hid ht3
        have hR := fun W (hW : Below w.heap.size w W) => spec_rcopy A cap ps W hn hf (hA.below hW)
        have e1 : ((ms.length : Int) != 3) = false := by rw [hm3]; rfl
        have e2 : ((ts.length : Int) != 3) = false := by rw [ht3]; rfl
        clear hf hA hok hm3 ht3
        go_enter Try.func29, Try.ntmps29
        go_wp2_with (go_at_call 17; refine hH.mono ?_; rintro r w2 ⟨rfl, hb2⟩; refine Hid.out ?_)
        refine Lib.hid ?_
        have c0 := b0.below hb2
        have c1 := b1.below hb2
        have s2 := hb2.size
        have BB := bel_then bl hb2
        clear hH hb2 b0 b1 bl
        go_wp2_with fail
        go_loopw [7] (fun i wr => ∃ k : Nat, k ≤ 3 ∧ i = .int .i64 k ∧ posTo ms k ∧ w2 = wr) (fun i _ => 3 - (intOf i).toNat)
        case atStart => exact ⟨0, Nat.zero_le _, rfl, fun j _ h => by omega, rfl⟩
        case round =>
          obtain ⟨k, hk, rfl, hpos, hww⟩ := hrel
          subst hww
          by_cases hlt : k < 3
          · obtain ⟨bm, om, rfl, hbm, zm⟩ := (hM.below BB).int k (by rw [HM3.out]; exact hlt)
            have hkm : (k : Int) < (ms.length : Int) := by have := HM3.out; omega
            have hkm2 : k < ms.length := by have := HM3.out; omega
            obtain ⟨y, hy⟩ : ∃ y, y = ms[k]'(by rw [HM3.out]; exact hlt) := ⟨_, rfl⟩
            rw [← hy] at zm
            have HP := Lib.hid hpos
            by_cases hy0 : y < 0
            · have HNO := Lib.hid (crashR_no (R := dks ps) (ms := ms) (ts := ts) (fun h => by
                have := h.2.2.2 _ (List.getElem_mem hkm2)
                omega))
              obtain ⟨y0, f0⟩ := c1.cells
              clear hR hpos hy HOK
              go_wp2_with fail
              exact bodyPost_ret (v := .agg #[.slice none 0 0]) (by simp [results, Try.f29, go_sem, y0]) rfl (by rw [HNO.out]; exact ⟨[], none, 0, rfl, rfl, RKeep.none _ _ _, BB.setCell (p := ⟨w.heap.size + 1, 0, none⟩) (Nat.le_succ _) _⟩)
            · have HY := Lib.hid hy
              clear hR hpos hy
              go_wp2_with fail
              go_roundw
              case rel => exact ⟨k + 1, by omega, by go_num, fun j hj h => by
                by_cases e : j = k
                · subst e; rw [← HY.out]; omega
                · exact HP.out j hj (by omega), trivial⟩
              case measure => simp [intOf]; omega
          · have hke : k = 3 := by omega
            subst hke
            have HG : Hid (GoodM (dks ps) ms ts) := Lib.hid ⟨HOK.out, HM3.out, HT3.out, posTo_all (by rw [HM3.out]; exact hpos)⟩
            have L := hR _ BB
            obtain ⟨x0, _⟩ := c0.cells
            clear hR hpos
            go_wp2_with (go_at_call 50; refine L.mono ?_; rintro r w3 ⟨qs, A2, c2, rfl, hq, ho, hb3⟩; refine Hid.out ?_)
            refine Lib.hid ?_
            have d1 := c1.below hb3
            have s3 := hb3.size
            have BB := bel_then BB hb3
            have hql := dks_same hq
            obtain ⟨g, rfl, hg, hgb⟩ := own_goneAt ho.1 (by rw [hql, h3.out]; decide)
            have hlt2 : w.heap.size + 1 < w2.heap.size := c1.lt
            clear L x0 c0 c1 hb3
            have hql3 : qs.length = 3 := by rw [hql, h3.out]
            have bo := B1.new w3 24 (.slice (some ⟨g, 0, none⟩) qs.length c2)
            have bl : Below w3.heap.size w3 (w3.alloc (.cells #[.slice (some ⟨g, 0, none⟩) qs.length c2] 24)) := (Below.refl _ _).alloc (Nat.le_refl _) _
            have H0 := (Half.start ho).below bl
            have d1 := d1.below bl
            have BB := bel_then BB bl
            have HQ := Lib.hid hq
            have HL := Lib.hid hql3
            have HAP := Lib.hid ho.2.apart
            obtain ⟨X, hX⟩ : ∃ X, X = crL (dks ps) ms ts := ⟨_, rfl⟩
            have hXl : X.length = (dks qs).length := by rw [hX, crL_len, hq]
            have hXat : ∀ (j : Nat) (h : j < qs.length), ∃ (h1 : j < ms.length) (h2 : j < ts.length) (h3 : j < X.length), X[j] = crashD qs[j].d ms[j] ts[j] ∧ DkOk qs[j].d ∧ 0 ≤ ms[j] ∧ ms[j] ≤ 9223372036854775807 := fun j h => by
              have h1 : j < ms.length := by rw [HM3.out, ← hql3]; exact h
              have h2 : j < ts.length := by rw [HT3.out, ← hql3]; exact h
              have hj : j < (dks ps).length := by rw [← hq, dks_len]; exact h
              have hd : (dks ps)[j] = qs[j].d := by
                have : (dks qs)[j]'(by rw [dks_len]; exact h) = qs[j].d := by simp [dks]
                rw [← this]
                simp only [hq]
              refine ⟨h1, h2, by rw [hXl, dks_len]; exact h, ?_, ?_, HG.out.2.2.2 _ (List.getElem_mem h1), hmb _ (List.getElem_mem h1)⟩
              · simp only [hX]
                rw [crL_at _ _ _ _ hj h1 h2, hd]
              · rw [← hd]
                exact HG.out.1.2 _ (List.getElem_mem hj)
            have HXR : Hid (crashR (dks ps) ms ts = X) := Lib.hid (by rw [crashR_yes HG.out, hX])
            have HXL := Lib.hid hXl
            have HXA := Lib.hid hXat
            have hmS := hM.below BB
            clear bl hq hql ho h3 hn hql3 hX hXl hXat HG HOK hmb
            go_wp2_with fail
            go_loopw [9] (fun i wr => ∃ (k : Nat) (cur : List RD), k ≤ qs.length ∧ i = .int .i64 k ∧ dks cur = partT X (dks qs) k ∧ Half wr w2.heap.size g c2 k qs cur ∧ B1 wr w3.heap.size 24 (.slice (some ⟨g, 0, none⟩) qs.length c2) ∧ B1 wr (w.heap.size + 1) 24 (.slice none 0 0) ∧ Below w.heap.size w wr) (fun i _ => 3 - (intOf i).toNat)
            case atStart => exact ⟨0, qs, Nat.zero_le _, rfl, by rw [partT_zero], H0, bo, d1, BB⟩
            case round =>
              clear H0 bo d1 BB hmS
              obtain ⟨k, cur, hk, rfl, hd, H, b0, b1, BB⟩ := hrel
              have HD := Lib.hid hd
              clear hd
              obtain ⟨x0, _⟩ := b0.cells
              have hxl := b0.lt
              have hxl1 := b1.lt
              by_cases hlt : k < qs.length
              · obtain ⟨hkm, hkt, hkx, hXk, hok, hm0, hm1⟩ := HXA.out k hlt
                obtain ⟨bm, om, rfl, hbm, zm0⟩ := hM.int k hkm
                have zm := (BB.cell (p := ⟨bm, om + k, none⟩) hbm).trans zm0
                obtain ⟨bt, ot, rfl, hbt, zt0⟩ := hT.int k hkt
                have zt := (BB.cell (p := ⟨bt, ot + k, none⟩) hbt).trans zt0
                clear zm0 zt0
                obtain ⟨mask, hmask⟩ : ∃ mask, mask = ms[k] := ⟨_, rfl⟩
                obtain ⟨tear, htear⟩ : ∃ tear, tear = ts[k] := ⟨_, rfl⟩
                rw [← hmask] at zm hXk hm0 hm1
                rw [← htear] at zt hXk
                have hkmi : (k : Int) < (ms.length : Int) := by omega
                have hkti : (k : Int) < (ts.length : Int) := by omega
                have hk3 : (k : Int) < 3 := by have := HL.out; omega
                have hkq : (k : Int) < (qs.length : Int) := by omega
                obtain ⟨hck, hin, hb0, hb1, hgn⟩ := H.rest k hlt (Nat.le_refl _)
                have hrow := H.row
                have cells := fun i v (hi : i < 3) (hv : (qs[k].trio)[i]? = some v) => (hrow.cellAt (k * 3 + i) (by omega)).trans ((trios_at cur k i (by have := H.len; omega) hi).trans ((congrArg (fun p : RD => (p.trio)[i]?) hck).trans hv))
                have z0 : wr.cell? ⟨g, k * 3, none⟩ = some (.slice qs[k].a qs[k].d.cells.length qs[k].c) := cells 0 _ (by decide) rfl
                have z1 : wr.cell? ⟨g, k * 3 + 1, none⟩ = some (.slice qs[k].b qs[k].d.waits.length qs[k].e) := cells 1 _ (by decide) rfl
                have z2 : wr.cell? ⟨g, k * 3 + 2, none⟩ = some (.bool qs[k].d.gone) := cells 2 _ (by decide) rfl
                have hpn := partT_next (T := X) (R := dks qs) HXL.out (k := k) (by rw [dks_len]; exact hlt)
                rw [hXk] at hpn
                have HNX := fun W' gk hgk hgr q hq hqb => Half.next H hlt HAP.out (W' := W') (gk := gk) hgk hgr (q := q) hq hqb
                have hin2 := hin.own
                obtain ⟨tt, u1, u2, hv, htt, ⟨q1, t1⟩, ⟨q2, t2⟩⟩ := hin
                obtain ⟨P, hP⟩ : ∃ P, P = qs[k] := ⟨_, rfl⟩
                rw [← hP] at z0 z1 z2 hok hb0 hb1 hgn hpn HNX hin2 hv q1 q2 t1 t2
                simp only [RD.val, Value.agg.injEq, Array.mk.injEq, List.cons.injEq, and_true] at hv
                obtain ⟨rfl, rfl⟩ := hv
                obtain ⟨gk, hgk⟩ := own_addr q1 (by rw [hok.1]; omega)
                have hgk1 : P.l ≤ gk ∧ gk < P.h := by
                  rw [hgk] at q1 t1
                  exact ⟨(q1.lt gk rfl).1, t1 gk rfl⟩
                have hwk : P.l ≤ wr.heap.size := by omega
                unfold RD.val at hin2
                rw [hgk] at z0 hin2
                have hS := l3crash P.l gk P.b P.c P.e P.d mask tear wr.drew hwk hin2 hok hm0 hm1
                rw [← crashD_yes hok hm0] at hS
                obtain ⟨D, hDD⟩ : ∃ D, D = crashD P.d mask tear := ⟨_, rfl⟩
                rw [← hDD] at hS hpn
                have fz0 := hrow.frozenAt (k * 3)
                have fz1 := hrow.frozenAt (k * 3 + 1)
                have fz2 := hrow.frozenAt (k * 3 + 2)
                have hgne : g ≠ gk := fun e => hgn (by omega)
                have hg0 : w3.heap.size ≠ gk := by
                  intro e
                  have h1 : wr.heap[w3.heap.size]? = some (.cells #[.slice (some ⟨g, 0, none⟩) qs.length c2] 24 (0, 0)) := b0
                  rcases q1.2 with ⟨e1, _⟩ | ⟨g', cap', cur', e1, _, hh, _⟩
                  · rw [hgk] at e1; cases e1
                  · rw [hgk] at e1
                    cases e1
                    rw [← e, h1] at hh
                    injection hh with hh
                    injection hh with _ ht
                    rcases htt with rfl | rfl <;> exact absurd ht (by decide)
                have hg1 : w.heap.size + 1 ≠ gk := by omega
                have hgwr : g < wr.heap.size := by have := (hrow.lt g rfl).2; exact this
                have hbmk : bm ≠ gk := by omega
                have hbtk : bt ≠ gk := by omega
                have hsw := BB.size
                have hbmw : bm < wr.heap.size := by omega
                have hbtw : bt < wr.heap.size := by omega
                have HPN := Lib.hid hpn
                have HNX' := Lib.hid HNX
                have HGK := Lib.hid hgk1
                have HB0 := Lib.hid hb0
                clear HNX hpn hrow cells hin2 q1 q2 t1 t2 hok hP hDD hck hgk hgk1 hXk hmask htear hm0 hm1
                go_wp2_with fail
                go_region_law (go_simp; go_at_call 68; refine hS.mono ?_; rintro r w2' ⟨c', b', e', rfl, hv, hgr, hnb⟩; have x0' := (hgr.cell_far ⟨w3.heap.size, 0, none⟩ hxl (by simpa using hg0)).trans (show wr.drew.cell? ⟨w3.heap.size, 0, none⟩ = _ from x0); have z0' := (hgr.cell_far ⟨g, k * 3, none⟩ hgwr (by simpa using hgne)).trans (show wr.drew.cell? ⟨g, k * 3, none⟩ = _ from z0); have z1' := (hgr.cell_far ⟨g, k * 3 + 1, none⟩ hgwr (by simpa using hgne)).trans (show wr.drew.cell? ⟨g, k * 3 + 1, none⟩ = _ from z1); have z2' := (hgr.cell_far ⟨g, k * 3 + 2, none⟩ hgwr (by simpa using hgne)).trans (show wr.drew.cell? ⟨g, k * 3 + 2, none⟩ = _ from z2); have fz0' := (hgr.frozen_far ⟨g, k * 3, none⟩ hgwr (by simpa using hgne)).trans (show wr.drew.frozen? ⟨g, k * 3, none⟩ = _ from fz0); have fz1' := (hgr.frozen_far ⟨g, k * 3 + 1, none⟩ hgwr (by simpa using hgne)).trans (show wr.drew.frozen? ⟨g, k * 3 + 1, none⟩ = _ from fz1); have fz2' := (hgr.frozen_far ⟨g, k * 3 + 2, none⟩ hgwr (by simpa using hgne)).trans (show wr.drew.frozen? ⟨g, k * 3 + 2, none⟩ = _ from fz2))
                all_goals
                  have hgr2 : wr.grownBy w2' (some gk) := ⟨hgr.os, hgr.tape, hgr.output, hgr.size, hgr.block⟩
                  have hnb2 : wr.heap.size ≤ b' := hnb
                  obtain ⟨q, hq⟩ : ∃ q : RD, q = ⟨some ⟨gk, 0, none⟩, c', some ⟨b', 0, none⟩, e', D, 0, 0⟩ := ⟨_, rfl⟩
                  have NX := HNX'.out w2' gk HGK.out hgr2 q (by rw [hq]; exact hv.in_.wide HB0.out (Nat.le_refl _)) (fun b hb => by
                    rw [hq] at hb
                    rcases hb with e | e
                    · injection e with e; injection e with e; subst e; exact .inl HGK.out
                    · injection e with e; injection e with e; subst e; exact .inr hnb2)
                  have hc0 : B1 w2' w3.heap.size 24 (.slice (some ⟨g, 0, none⟩) qs.length c2) := (hgr2.block w3.heap.size hxl (by simpa using hg0)).trans b0
                  have hc1 : B1 w2' (w.heap.size + 1) 24 (.slice none 0 0) := (hgr2.block (w.heap.size + 1) hxl1 (by simpa using hg1)).trans b1
                  have HD2 : Hid (dks (cur.set k q) = partT X (dks qs) (k + 1)) := Lib.hid (by rw [dks_set, HD.out, ← HPN.out, hq])
                  have B2' : Below w.heap.size w w2' := BB.grown hgr2 (by omega) (fun b e => by cases e; have := HGK.out; have := HB0.out; omega)
                  have e1 : q.a = some ⟨gk, 0, none⟩ ∧ q.c = c' ∧ q.b = some ⟨b', 0, none⟩ ∧ q.e = e' ∧ q.d = D := by rw [hq]; exact ⟨rfl, rfl, rfl, rfl, rfl⟩
                  simp only [e1.1, e1.2.1, e1.2.2.1, e1.2.2.2.1, e1.2.2.2.2] at NX
                  have HN2 := Lib.hid NX
                  have wg : w.heap.size ≤ g := by omega
                  have n0 : w3.heap.size ≠ g := by omega
                  have n1 : w.heap.size + 1 ≠ g := by omega
                  have C0 := Lib.hid (((hc0.set (p := ⟨g, k * 3, none⟩) n0 (.slice (some ⟨gk, 0, none⟩) D.cells.length c')).set (p := ⟨g, k * 3 + 1, none⟩) n0 (.slice (some ⟨b', 0, none⟩) D.waits.length e')).set (p := ⟨g, k * 3 + 2, none⟩) n0 (.bool D.gone))
                  have C1 := Lib.hid (((hc1.set (p := ⟨g, k * 3, none⟩) n1 (.slice (some ⟨gk, 0, none⟩) D.cells.length c')).set (p := ⟨g, k * 3 + 1, none⟩) n1 (.slice (some ⟨b', 0, none⟩) D.waits.length e')).set (p := ⟨g, k * 3 + 2, none⟩) n1 (.bool D.gone))
                  have C2 := Lib.hid (((B2'.setCell (p := ⟨g, k * 3, none⟩) wg (.slice (some ⟨gk, 0, none⟩) D.cells.length c')).setCell (p := ⟨g, k * 3 + 1, none⟩) wg (.slice (some ⟨b', 0, none⟩) D.waits.length e')).setCell (p := ⟨g, k * 3 + 2, none⟩) wg (.bool D.gone))
                  clear NX e1 hq hv hgr hgr2 hnb hnb2 hc0 hc1 B2' zm zt x0 z0 z1 z2 fz0 fz1 fz2 x0' z0' z1' z2' fz0' fz1' fz2' hS
                  go_wp2_with fail
                  go_roundw
                  case rel => exact ⟨k + 1, _, by omega, by go_num, HD2.out, HN2.out, C0.out, C1.out, C2.out⟩
                  case measure => simp [intOf]; omega
              · have hke : k = qs.length := by omega
                subst hke
                have hnk : ¬ ((qs.length : Int) < 3) := by have := HL.out; omega
                have he := H.end_
                have hcl := H.len
                obtain ⟨y0, f0⟩ := b1.cells
                have hdd : dks cur = X := by rw [HD.out, ← dks_len qs, partT_all HXL.out]
                have HE := Lib.hid he
                have HDD := Lib.hid hdd
                have HCL := Lib.hid hcl
                have s5 : w.heap.size ≤ w2.heap.size := by omega
                clear he hdd hcl H
                go_wp2_with fail
                refine bodyPost_ret (v := .agg #[.slice (some ⟨g, 0, none⟩) qs.length c2]) (by simp [results, Try.f29, go_sem, y0]) rfl (by rw [HXR.out]; exact ⟨cur, some ⟨g, 0, none⟩, c2, by rw [HCL.out], HDD.out, (HE.out.set (p := ⟨w.heap.size + 1, 0, none⟩) hlt2 _).wide s5 (Nat.le_of_eq (size_put _ _ _).symm), BB.setCell (p := ⟨w.heap.size + 1, 0, none⟩) (Nat.le_succ _) _⟩)
      · have e1 : ((ms.length : Int) != 3) = false := by rw [hm3]; rfl
        have e2 : ((ts.length : Int) != 3) = true := by simp; omega
        rw [crashR_no (fun h => ht3 h.2.2.1)]
        clear hok hf hA hm3 ht3
        go_enter Try.func29, Try.ntmps29
        go_wp2_with (go_at_call 17; refine hH.mono ?_; rintro r w2 ⟨rfl, hb2⟩; obtain ⟨y0, f0⟩ := (b1.below hb2).cells)
        exact bodyPost_ret (v := .agg #[.slice none 0 0]) (by simp [results, Try.f29, go_sem, y0]) rfl ⟨[], none, 0, rfl, rfl, RKeep.none _ _ _, (bel_then bl hb2).setCell (p := ⟨w.heap.size + 1, 0, none⟩) (Nat.le_succ _) _⟩
    · have e1 : ((ms.length : Int) != 3) = true := by simp; omega
      rw [crashR_no (fun h => hm3 h.2.1)]
      clear hok hf hA hm3
      go_enter Try.func29, Try.ntmps29
      go_wp2_with (go_at_call 17; refine hH.mono ?_; rintro r w2 ⟨rfl, hb2⟩; obtain ⟨y0, f0⟩ := (b1.below hb2).cells)
      exact bodyPost_ret (v := .agg #[.slice none 0 0]) (by simp [results, Try.f29, go_sem, y0]) rfl ⟨[], none, 0, rfl, rfl, RKeep.none _ _ _, (bel_then bl hb2).setCell (p := ⟨w.heap.size + 1, 0, none⟩) (Nat.le_succ _) _⟩
  · rw [okR_no hok] at hH
    rw [crashR_no (fun h => hok h.1)]
    clear hok hf hA
    go_enter Try.func29, Try.ntmps29
    go_wp2_with (go_at_call 17; refine hH.mono ?_; rintro r w2 ⟨rfl, hb2⟩; obtain ⟨y0, f0⟩ := (b1.below hb2).cells)
    exact bodyPost_ret (v := .agg #[.slice none 0 0]) (by simp [results, Try.f29, go_sem, y0]) rfl ⟨[], none, 0, rfl, rfl, RKeep.none _ _ _, (bel_then bl hb2).setCell (p := ⟨w.heap.size + 1, 0, none⟩) (Nat.le_succ _) _⟩
end Go.Proofs.Ytndckncoipkhaaa
