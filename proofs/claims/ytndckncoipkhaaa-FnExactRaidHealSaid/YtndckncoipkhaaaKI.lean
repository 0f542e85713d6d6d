/-
  A disk of a set is lost.
  Numbers in memory: a copy, whether two rows are equal, the marks of a law.
-/
import Derived.Test.YtndckncoipkhaaaRFs

namespace Go.Proofs.Ytndckncoipkhaaa
open Go.RowKit

def loseR (R : List Dk) (n : Int) : List Dk × Bool := if RsOk R ∧ 0 ≤ n ∧ n ≤ 2 then (R.set n.toNat loseD, true) else ([], false)
theorem loseR_yes {R : List Dk} {n : Int} (h : RsOk R) (hn : 0 ≤ n ∧ n ≤ 2) : loseR R n = (R.set n.toNat loseD, true) := if_pos ⟨h, hn⟩
theorem loseR_no {R : List Dk} {n : Int} (h : ¬ (RsOk R ∧ 0 ≤ n ∧ n ≤ 2)) : loseR R n = ([], false) := if_neg h
theorem in72 (n : Int) (w : World) : Calls Try.prog 72 #[.int .i64 n, .int .i64 0, .int .i64 2] w fun r w' => r = .returned (.bool (decide (0 ≤ n ∧ n ≤ 2))) ∧ w' = w := by
  by_cases h1 : 0 ≤ n
  · by_cases h2 : n ≤ 2
    · go_enter Try.func72, Try.ntmps72
      go_wp2_with fail
      go_ret
      exact ⟨by simp [h1, h2], rfl⟩
    · go_enter Try.func72, Try.ntmps72
      go_wp2_with fail
      go_ret
      exact ⟨by rw [decide_eq_false (by omega)]; rfl, rfl⟩
  · go_enter Try.func72, Try.ntmps72
    go_wp2_with fail
    go_ret
    exact ⟨by rw [decide_eq_false (by omega)]; rfl, rfl⟩
theorem in74 (n : Int) (w : World) : Calls Try.prog 74 #[.int .i64 n, .int .i64 0, .int .i64 2] w fun r w' => r = .returned (.bool (decide (0 ≤ n ∧ n ≤ 2))) ∧ w' = w := by
  by_cases h1 : 0 ≤ n
  · by_cases h2 : n ≤ 2
    · go_enter Try.func74, Try.ntmps74
      go_wp2_with fail
      go_ret
      exact ⟨by simp [h1, h2], rfl⟩
    · go_enter Try.func74, Try.ntmps74
      go_wp2_with fail
      go_ret
      exact ⟨by rw [decide_eq_false (by omega)]; rfl, rfl⟩
  · go_enter Try.func74, Try.ntmps74
    go_wp2_with fail
    go_ret
    exact ⟨by rw [decide_eq_false (by omega)]; rfl, rfl⟩

theorem ROwn.drew {W : World} {base : Nat} {u : Value} {ps : List RD} (h : ROwn W base u ps) : ROwn W.drew base u ps := ⟨h.1, ⟨h.2.each, h.2.apart⟩⟩
/-- A new disk is put in the place of one. -/
theorem rown_swap {W W' : World} {base g c k : Nat} {qs : List RD} (h : ROwn W base (.slice (some ⟨g, 0, none⟩) qs.length c) qs) (hb : Below W.heap.size W W') (hk : k < qs.length) {A' B' : Option Addr} {c' e' : Nat} {D : Dk} (hd : DkOwn W' W.heap.size (.agg #[.slice A' D.cells.length c', .slice B' D.waits.length e', .bool D.gone]) D) :
    ∃ ps : List RD, ps.length = qs.length ∧ dks ps = (dks qs).set k D ∧ ROwn (((W'.setCell ⟨g, k * 3, none⟩ (.slice A' D.cells.length c')).setCell ⟨g, k * 3 + 1, none⟩ (.slice B' D.waits.length e')).setCell ⟨g, k * 3 + 2, none⟩ (.bool D.gone)) base (.slice (some ⟨g, 0, none⟩) ps.length c) ps := by
  obtain ⟨q, hq⟩ : ∃ q : RD, q = ⟨A', c', B', e', D, W.heap.size, W'.heap.size⟩ := ⟨_, rfl⟩
  have hgl : g < W.heap.size := (h.1.lt g rfl).2
  have hbw : base ≤ W.heap.size := by have := (h.1.lt g rfl).1; omega
  have h' := h.below hb
  have e1 : q.a = A' ∧ q.c = c' ∧ q.b = B' ∧ q.e = e' ∧ q.d = D ∧ q.l = W.heap.size ∧ q.h = W'.heap.size := by rw [hq]; exact ⟨rfl, rfl, rfl, rfl, rfl, rfl, rfl⟩
  have row := ((((h'.1.stored (k * 3) (.slice q.a q.d.cells.length q.c)).1).stored (k * 3 + 1) (.slice q.b q.d.waits.length q.e)).1.stored (k * 3 + 2) (.bool q.d.gone)).1
  rw [trios_set qs k hk q] at row
  have hin : DkIn W' q.l q.h q.val q.d := by rw [hq]; exact hd.in_
  have st := h'.2.set (j := k) (p := q) hin (by rw [e1.2.2.2.2.2.1]; exact hbw) (by rw [e1.2.2.2.2.2.1, e1.2.2.2.2.2.2]; exact hb.size) (by rw [e1.2.2.2.2.2.2]; exact Nat.le_refl _) (fun b hbb => by have hb2 : g = b := Option.some.inj hbb; rw [e1.2.2.2.2.2.1]; omega) (fun i hi hne => .inl (by rw [e1.2.2.2.2.2.1]; exact (h.2.each _ (List.getElem_mem hi)).2.2.2.1))
  have st3 := ((st.row (grown_set W' ⟨g, k * 3, none⟩ (.slice q.a q.d.cells.length q.c))).row (grown_set _ ⟨g, k * 3 + 1, none⟩ (.slice q.b q.d.waits.length q.e))).row (grown_set _ ⟨g, k * 3 + 2, none⟩ (.bool q.d.gone))
  simp only [e1.1, e1.2.1, e1.2.2.1, e1.2.2.2.1, e1.2.2.2.2.1] at row st3
  have hl : (qs.set k q).length = qs.length := List.length_set
  refine ⟨qs.set k q, hl, by rw [dks_set, e1.2.2.2.2.1], ?_⟩
  rw [hl]
  exact ⟨by rw [hl]; exact row, st3.top (by simp [World.setCell])⟩

set_option maxRecDepth 100000 in
set_option maxHeartbeats 4000000 in
theorem spec_rlose (A : Option Addr) (cap : Nat) (ps : List RD) (n : Int) (w : World) (hn : ps.length ≤ 1048576) (hf : ∀ p ∈ ps, Bulk p.d) (hA : RAt w A ps) :
    Calls Try.prog 34 #[.agg #[.slice A ps.length cap], .int .i64 n] w (RPost2 (loseR (dks ps) n).1 (loseR (dks ps) n).2 w) := by
  have bl : Below w.heap.size w ((w.alloc (.cells #[.slice A ps.length cap] 24)).alloc (.cells #[.slice none 0 0] 24)) := bel_new (bel_new (Below.refl _ _) _) _
  have b0 := (B1.new w 24 (.slice A ps.length cap)).alloc (.cells #[.slice none 0 0] 24)
  have b1 := B1.new (w.alloc (.cells #[.slice A ps.length cap] 24)) 24 (.slice none 0 0)
  rw [World.size_alloc] at b1
  have hH := spec_rok A cap ps _ hn hf (hA.below bl)
  have hI := fun W => in72 n W
  by_cases hok : RsOk (dks ps)
  · have h3 : Hid (ps.length = 3) := Lib.hid (by have := hok.1; rwa [dks_len] at this)
    rw [okR_yes hok] at hH
    by_cases hin : 0 ≤ n ∧ n ≤ 2
    · rw [loseR_yes hok hin]
      simp only [decide_eq_true hin] at hI
      obtain ⟨k, rfl⟩ : ∃ k : Nat, n = k := ⟨n.toNat, by omega⟩
      have hk : k < 3 := by omega
      simp only [Int.toNat_natCast]
      have hR := fun W (hW : Below w.heap.size w W) => spec_rcopy A cap ps W hn hf (hA.below hW)
      have hL := fun W => spec_lose W
      obtain ⟨D, hD⟩ : ∃ D, D = loseD := ⟨_, rfl⟩
      simp only [← hD] at hL ⊢
      clear hf hA hok hin hD
      go_enter Try.func34, Try.ntmps34
      go_wp2_with (go_at_call 17; refine hH.mono ?_; rintro r w2 ⟨rfl, hb2⟩; refine Hid.out ?_)
      refine Lib.hid ?_
      have c0 := b0.below hb2
      have c1 := b1.below hb2
      have s2 := hb2.size
      have BB := bel_then bl hb2
      clear hH hb2 b0 b1 bl
      go_wp2_with (go_at_call 72; refine (hI _).mono ?_; rintro r w2' ⟨rfl, hww⟩; obtain rfl := hww.symm; refine Hid.out ?_)
      refine Lib.hid ?_
      have L := hR _ BB
      clear hR hI
      obtain ⟨x0, _⟩ := c0.cells
      go_wp2_with (go_at_call 50; refine L.mono ?_; rintro r w3 ⟨qs, A2, c2, rfl, hq, ho, hb3⟩; refine Hid.out ?_)
      refine Lib.hid ?_
      have d1 := c1.below hb3
      have s3 := hb3.size
      have BB := bel_then BB hb3
      have hql := dks_same hq
      obtain ⟨g, rfl, hg, hgb⟩ := own_goneAt ho.1 (by rw [hql, h3.out]; decide)
      have hlt2 : w.heap.size + 1 < w2.heap.size := c1.lt
      clear L x0 c0 c1 hb3
      have hqk : k < qs.length := by rw [hql, h3.out]; exact hk
      have bo := B1.new w3 24 (.slice (some ⟨g, 0, none⟩) qs.length c2)
      have bl : Below w3.heap.size w3 (w3.alloc (.cells #[.slice (some ⟨g, 0, none⟩) qs.length c2] 24)) := (Below.refl _ _).alloc (Nat.le_refl _) _
      have ho := ho.below bl
      have d1 := d1.below bl
      have BB := bel_then BB bl
      have hql2 : qs.length ≤ 1048576 := by rw [hql]; exact hn
      have HQ := Lib.hid hq
      have HL := Lib.hid hql
      have ho' := Lib.hid ho
      have hrow := ho.1
      clear bl hq hql ho h3 hn
      obtain ⟨x0, _⟩ := bo.cells
      have hkn : (k : Int) < (qs.length : Int) := by omega
      have hgo : g < w3.heap.size + 1 := by omega
      go_wp2_with fail
      have hgl : g < (w3.alloc (.cells #[.slice (some ⟨g, 0, none⟩) qs.length c2] 24)).heap.size := (hrow.lt g rfl).2
      have hol : w3.heap.size < (w3.alloc (.cells #[.slice (some ⟨g, 0, none⟩) qs.length c2] 24)).heap.size := bo.lt
      have sW : w2.heap.size ≤ (w3.alloc (.cells #[.slice (some ⟨g, 0, none⟩) qs.length c2] 24)).heap.size := by rw [World.size_alloc]; omega
      generalize hWW : w3.alloc (.cells #[.slice (some ⟨g, 0, none⟩) qs.length c2] 24) = W at *
      clear hWW
      have HS := Lib.hid hqk
      have cells := fun i v (hi : i < 3) (hv : (qs[k].trio)[i]? = some v) => (hrow.cellAt (k * 3 + i) (by omega)).trans ((trios_at qs k i hqk hi).trans hv)
      have z0 : W.cell? ⟨g, k * 3, none⟩ = some (.slice qs[k].a qs[k].d.cells.length qs[k].c) := cells 0 _ (by decide) rfl
      have z1 : W.cell? ⟨g, k * 3 + 1, none⟩ = some (.slice qs[k].b qs[k].d.waits.length qs[k].e) := cells 1 _ (by decide) rfl
      have z2 : W.cell? ⟨g, k * 3 + 2, none⟩ = some (.bool qs[k].d.gone) := cells 2 _ (by decide) rfl
      obtain ⟨P, hP⟩ : ∃ P, P = qs[k] := ⟨_, rfl⟩
      rw [← hP] at z0 z1 z2
      clear cells hP
      go_region_law (go_simp; go_at_call 73; refine (hL W.drew).mono ?_; rintro r w4 ⟨A', c', B', e', rfl, hv, hb4⟩; have x0' := (B1.below (W := W.drew) bo hb4).cells.1; have hrow4 := own_bel (w := W.drew) hrow hb4; have z0' := (hb4.cell (p := ⟨g, k * 3, none⟩) hgl).trans (show W.drew.cell? ⟨g, k * 3, none⟩ = _ from z0); have z1' := (hb4.cell (p := ⟨g, k * 3 + 1, none⟩) hgl).trans (show W.drew.cell? ⟨g, k * 3 + 1, none⟩ = _ from z1); have z2' := (hb4.cell (p := ⟨g, k * 3 + 2, none⟩) hgl).trans (show W.drew.cell? ⟨g, k * 3 + 2, none⟩ = _ from z2); have fz0' := hrow4.frozenAt (k * 3); have fz1' := hrow4.frozenAt (k * 3 + 1); have fz2' := hrow4.frozenAt (k * 3 + 2))
      all_goals
        obtain ⟨rs, hrl, hrd, hro⟩ := rown_swap (W := W.drew) ho'.out.drew hb4 HS.out hv
        have e1 := (B1.below (W := W.drew) d1 hb4)
        have o1 := (B1.below (W := W.drew) bo hb4)
        have B4 := bel_then BB.drew hb4
        have gne : w.heap.size + 1 ≠ g := by omega
        have one : w3.heap.size ≠ g := by omega
        have e2 := (((e1.set (p := ⟨g, k * 3, none⟩) gne (.slice A' D.cells.length c')).set (p := ⟨g, k * 3 + 1, none⟩) gne (.slice B' D.waits.length e')).set (p := ⟨g, k * 3 + 2, none⟩) gne (.bool D.gone))
        have o2 := (((o1.set (p := ⟨g, k * 3, none⟩) one (.slice A' D.cells.length c')).set (p := ⟨g, k * 3 + 1, none⟩) one (.slice B' D.waits.length e')).set (p := ⟨g, k * 3 + 2, none⟩) one (.bool D.gone))
        have wg : w.heap.size ≤ g := by omega
        have B5 := ((B4.setCell (p := ⟨g, k * 3, none⟩) wg (.slice A' D.cells.length c')).setCell (p := ⟨g, k * 3 + 1, none⟩) wg (.slice B' D.waits.length e')).setCell (p := ⟨g, k * 3 + 2, none⟩) wg (.bool D.gone)
        rw [HQ.out] at hrd
        generalize hVV : ((w4.setCell ⟨g, k * 3, none⟩ (.slice A' D.cells.length c')).setCell ⟨g, k * 3 + 1, none⟩ (.slice B' D.waits.length e')).setCell ⟨g, k * 3 + 2, none⟩ (.bool D.gone) = V at *
        clear hVV
        obtain ⟨y0, f0⟩ := e2.cells
        obtain ⟨x1, _⟩ := o2.cells
        rw [← hrl] at x1
        have hro' := Lib.hid hro
        have hlt3 := e2.lt
        clear hro
        go_wp2_with fail
        exact bodyPost_ret (v := .tuple #[.agg #[.slice (some ⟨g, 0, none⟩) rs.length c2], .bool true]) (by simp [results, Try.f34, go_sem, y0]; exact hrl.symm) rfl ⟨rs, some ⟨g, 0, none⟩, c2, rfl, hrd, (hro'.out.set (p := ⟨w.heap.size + 1, 0, none⟩) hlt2 _).base (by omega), B5.setCell (p := ⟨w.heap.size + 1, 0, none⟩) (Nat.le_succ _) _⟩
    · have hin2 : decide (0 ≤ n ∧ n ≤ 2) = false := decide_eq_false hin
      rw [loseR_no (fun h => hin h.2)]
      simp only [hin2] at hI
      clear hf hA hok hin hin2 h3
      go_enter Try.func34, Try.ntmps34
      go_wp2_with (go_at_call 17; refine hH.mono ?_; rintro r w2 ⟨rfl, hb2⟩; refine Hid.out ?_)
      refine Lib.hid ?_
      obtain ⟨y0, f0⟩ := (b1.below hb2).cells
      have hlt := (b1.below hb2).lt
      have BB := bel_then bl hb2
      clear hH hb2 b0 b1 bl
      go_wp2_with (go_at_call 72; refine (hI _).mono ?_; rintro r w2' ⟨rfl, hww⟩; obtain rfl := hww.symm)
      exact bodyPost_ret (v := .tuple #[.agg #[.slice none 0 0], .bool false]) (by simp [results, Try.f34, go_sem, y0]) rfl ⟨[], none, 0, rfl, rfl, ROwn.none _ _, BB.setCell (p := ⟨w.heap.size + 1, 0, none⟩) (Nat.le_succ _) _⟩
  · rw [okR_no hok] at hH
    rw [loseR_no (fun h => hok h.1)]
    clear hok hf hA hI
    obtain ⟨x0, _⟩ := b0.cells
    go_enter Try.func34, Try.ntmps34
    go_wp2_with (go_at_call 17; refine hH.mono ?_; rintro r w2 ⟨rfl, hb2⟩; obtain ⟨y0, f0⟩ := (b1.below hb2).cells)
    have hlt := (b1.below hb2).lt
    exact bodyPost_ret (v := .tuple #[.agg #[.slice none 0 0], .bool false]) (by simp [results, Try.f34, go_sem, y0]) rfl ⟨[], none, 0, rfl, rfl, ROwn.none _ _, (bel_then bl hb2).setCell (p := ⟨w.heap.size + 1, 0, none⟩) (Nat.le_succ _) _⟩

set_option maxRecDepth 100000 in
set_option maxHeartbeats 4000000 in
theorem impl_rlose (A : Option Addr) (cap : Nat) (ps : List RD) (n : Int) (w : World) (hn : ps.length ≤ 1048576) (hf : ∀ p ∈ ps, Bulk p.d) (hA : RAt w A ps) :
    Calls Try.prog 35 #[.agg #[.slice A ps.length cap], .int .i64 n] w (RPost2 (loseR (dks ps) n).1 (loseR (dks ps) n).2 w) := by
  have bl : Below w.heap.size w ((w.alloc (.cells #[.slice A ps.length cap] 24)).alloc (.cells #[.slice none 0 0] 24)) := bel_new (bel_new (Below.refl _ _) _) _
  have b0 := (B1.new w 24 (.slice A ps.length cap)).alloc (.cells #[.slice none 0 0] 24)
  have b1 := B1.new (w.alloc (.cells #[.slice A ps.length cap] 24)) 24 (.slice none 0 0)
  rw [World.size_alloc] at b1
  have hH := m_rok A cap ps _ hn hf (hA.below bl)
  have hI := fun W => in74 n W
  by_cases hok : RsOk (dks ps)
  · have h3 : Hid (ps.length = 3) := Lib.hid (by have := hok.1; rwa [dks_len] at this)
    rw [okR_yes hok] at hH
    by_cases hin : 0 ≤ n ∧ n ≤ 2
    · rw [loseR_yes hok hin]
      simp only [decide_eq_true hin] at hI
      obtain ⟨k, rfl⟩ : ∃ k : Nat, n = k := ⟨n.toNat, by omega⟩
      have hk : k < 3 := by omega
      simp only [Int.toNat_natCast]
      have hR := fun W (hW : Below w.heap.size w W) => impl_rcopied A cap ps W h3.out hf (hA.below hW)
      have hL := fun W => impl_lose W
      obtain ⟨D, hD⟩ : ∃ D, D = loseD := ⟨_, rfl⟩
      simp only [← hD] at hL ⊢
      clear hf hA hok hin hD
      go_enter Try.func35, Try.ntmps35
      go_wp2_with (go_at_call 46; refine hH.mono ?_; rintro r w2 ⟨rfl, hb2⟩; refine Hid.out ?_)
      refine Lib.hid ?_
      have c0 := b0.below hb2
      have c1 := b1.below hb2
      have s2 := hb2.size
      have BB := bel_then bl hb2
      clear hH hb2 b0 b1 bl
      go_wp2_with (go_at_call 74; refine (hI _).mono ?_; rintro r w2' ⟨rfl, hww⟩; obtain rfl := hww.symm; refine Hid.out ?_)
      refine Lib.hid ?_
      have L := hR _ BB
      clear hR hI
      obtain ⟨x0, _⟩ := c0.cells
      go_wp2_with (go_at_call 75; refine L.mono ?_; rintro r w3 ⟨qs, A2, c2, rfl, hq, ho, hb3⟩; refine Hid.out ?_)
      refine Lib.hid ?_
      have d1 := c1.below hb3
      have s3 := hb3.size
      have BB := bel_then BB hb3
      have hql := dks_same hq
      obtain ⟨g, rfl, hg, hgb⟩ := own_goneAt ho.1 (by rw [hql, h3.out]; decide)
      have hlt2 : w.heap.size + 1 < w2.heap.size := c1.lt
      clear L x0 c0 c1 hb3
      have hqk : k < qs.length := by rw [hql, h3.out]; exact hk
      have bo := B1.new w3 24 (.slice (some ⟨g, 0, none⟩) qs.length c2)
      have bl : Below w3.heap.size w3 (w3.alloc (.cells #[.slice (some ⟨g, 0, none⟩) qs.length c2] 24)) := (Below.refl _ _).alloc (Nat.le_refl _) _
      have ho := ho.below bl
      have d1 := d1.below bl
      have BB := bel_then BB bl
      have hql2 : qs.length ≤ 1048576 := by rw [hql]; exact hn
      have HQ := Lib.hid hq
      have HL := Lib.hid hql
      have ho' := Lib.hid ho
      have hrow := ho.1
      clear bl hq hql ho h3 hn
      obtain ⟨x0, _⟩ := bo.cells
      have hkn : (k : Int) < (qs.length : Int) := by omega
      have hgo : g < w3.heap.size + 1 := by omega
      go_wp2_with fail
      have hgl : g < (w3.alloc (.cells #[.slice (some ⟨g, 0, none⟩) qs.length c2] 24)).heap.size := (hrow.lt g rfl).2
      have hol : w3.heap.size < (w3.alloc (.cells #[.slice (some ⟨g, 0, none⟩) qs.length c2] 24)).heap.size := bo.lt
      have sW : w2.heap.size ≤ (w3.alloc (.cells #[.slice (some ⟨g, 0, none⟩) qs.length c2] 24)).heap.size := by rw [World.size_alloc]; omega
      generalize hWW : w3.alloc (.cells #[.slice (some ⟨g, 0, none⟩) qs.length c2] 24) = W at *
      clear hWW
      have HS := Lib.hid hqk
      have cells := fun i v (hi : i < 3) (hv : (qs[k].trio)[i]? = some v) => (hrow.cellAt (k * 3 + i) (by omega)).trans ((trios_at qs k i hqk hi).trans hv)
      have z0 : W.cell? ⟨g, k * 3, none⟩ = some (.slice qs[k].a qs[k].d.cells.length qs[k].c) := cells 0 _ (by decide) rfl
      have z1 : W.cell? ⟨g, k * 3 + 1, none⟩ = some (.slice qs[k].b qs[k].d.waits.length qs[k].e) := cells 1 _ (by decide) rfl
      have z2 : W.cell? ⟨g, k * 3 + 2, none⟩ = some (.bool qs[k].d.gone) := cells 2 _ (by decide) rfl
      obtain ⟨P, hP⟩ : ∃ P, P = qs[k] := ⟨_, rfl⟩
      rw [← hP] at z0 z1 z2
      clear cells hP
      go_region_law (go_simp; go_at_call 76; refine (hL W.drew).mono ?_; rintro r w4 ⟨A', c', B', e', rfl, hv, hb4⟩; have x0' := (B1.below (W := W.drew) bo hb4).cells.1; have hrow4 := own_bel (w := W.drew) hrow hb4; have z0' := (hb4.cell (p := ⟨g, k * 3, none⟩) hgl).trans (show W.drew.cell? ⟨g, k * 3, none⟩ = _ from z0); have z1' := (hb4.cell (p := ⟨g, k * 3 + 1, none⟩) hgl).trans (show W.drew.cell? ⟨g, k * 3 + 1, none⟩ = _ from z1); have z2' := (hb4.cell (p := ⟨g, k * 3 + 2, none⟩) hgl).trans (show W.drew.cell? ⟨g, k * 3 + 2, none⟩ = _ from z2); have fz0' := hrow4.frozenAt (k * 3); have fz1' := hrow4.frozenAt (k * 3 + 1); have fz2' := hrow4.frozenAt (k * 3 + 2))
      all_goals
        obtain ⟨rs, hrl, hrd, hro⟩ := rown_swap (W := W.drew) ho'.out.drew hb4 HS.out hv
        have e1 := (B1.below (W := W.drew) d1 hb4)
        have o1 := (B1.below (W := W.drew) bo hb4)
        have B4 := bel_then BB.drew hb4
        have gne : w.heap.size + 1 ≠ g := by omega
        have one : w3.heap.size ≠ g := by omega
        have e2 := (((e1.set (p := ⟨g, k * 3, none⟩) gne (.slice A' D.cells.length c')).set (p := ⟨g, k * 3 + 1, none⟩) gne (.slice B' D.waits.length e')).set (p := ⟨g, k * 3 + 2, none⟩) gne (.bool D.gone))
        have o2 := (((o1.set (p := ⟨g, k * 3, none⟩) one (.slice A' D.cells.length c')).set (p := ⟨g, k * 3 + 1, none⟩) one (.slice B' D.waits.length e')).set (p := ⟨g, k * 3 + 2, none⟩) one (.bool D.gone))
        have wg : w.heap.size ≤ g := by omega
        have B5 := ((B4.setCell (p := ⟨g, k * 3, none⟩) wg (.slice A' D.cells.length c')).setCell (p := ⟨g, k * 3 + 1, none⟩) wg (.slice B' D.waits.length e')).setCell (p := ⟨g, k * 3 + 2, none⟩) wg (.bool D.gone)
        rw [HQ.out] at hrd
        generalize hVV : ((w4.setCell ⟨g, k * 3, none⟩ (.slice A' D.cells.length c')).setCell ⟨g, k * 3 + 1, none⟩ (.slice B' D.waits.length e')).setCell ⟨g, k * 3 + 2, none⟩ (.bool D.gone) = V at *
        clear hVV
        obtain ⟨y0, f0⟩ := e2.cells
        obtain ⟨x1, _⟩ := o2.cells
        rw [← hrl] at x1
        have hro' := Lib.hid hro
        have hlt3 := e2.lt
        clear hro
        go_wp2_with fail
        exact bodyPost_ret (v := .tuple #[.agg #[.slice (some ⟨g, 0, none⟩) rs.length c2], .bool true]) (by simp [results, Try.f35, go_sem, y0]; exact hrl.symm) rfl ⟨rs, some ⟨g, 0, none⟩, c2, rfl, hrd, (hro'.out.set (p := ⟨w.heap.size + 1, 0, none⟩) hlt2 _).base (by omega), B5.setCell (p := ⟨w.heap.size + 1, 0, none⟩) (Nat.le_succ _) _⟩
    · have hin2 : decide (0 ≤ n ∧ n ≤ 2) = false := decide_eq_false hin
      rw [loseR_no (fun h => hin h.2)]
      simp only [hin2] at hI
      clear hf hA hok hin hin2 h3
      go_enter Try.func35, Try.ntmps35
      go_wp2_with (go_at_call 46; refine hH.mono ?_; rintro r w2 ⟨rfl, hb2⟩; refine Hid.out ?_)
      refine Lib.hid ?_
      obtain ⟨y0, f0⟩ := (b1.below hb2).cells
      have hlt := (b1.below hb2).lt
      have BB := bel_then bl hb2
      clear hH hb2 b0 b1 bl
      go_wp2_with (go_at_call 74; refine (hI _).mono ?_; rintro r w2' ⟨rfl, hww⟩; obtain rfl := hww.symm)
      exact bodyPost_ret (v := .tuple #[.agg #[.slice none 0 0], .bool false]) (by simp [results, Try.f35, go_sem, y0]) rfl ⟨[], none, 0, rfl, rfl, ROwn.none _ _, BB.setCell (p := ⟨w.heap.size + 1, 0, none⟩) (Nat.le_succ _) _⟩
  · rw [okR_no hok] at hH
    rw [loseR_no (fun h => hok h.1)]
    clear hok hf hA hI
    obtain ⟨x0, _⟩ := b0.cells
    go_enter Try.func35, Try.ntmps35
    go_wp2_with (go_at_call 46; refine hH.mono ?_; rintro r w2 ⟨rfl, hb2⟩; obtain ⟨y0, f0⟩ := (b1.below hb2).cells)
    have hlt := (b1.below hb2).lt
    exact bodyPost_ret (v := .tuple #[.agg #[.slice none 0 0], .bool false]) (by simp [results, Try.f35, go_sem, y0]) rfl ⟨[], none, 0, rfl, rfl, ROwn.none _ _, (bel_then bl hb2).setCell (p := ⟨w.heap.size + 1, 0, none⟩) (Nat.le_succ _) _⟩
end Go.Proofs.Ytndckncoipkhaaa

namespace Go.Proofs.Ytndckncoipkhaaa
open Go.RowKit

theorem Try.info3 : (Try.prog.info? 3).map (fun i => (i.zero, i.size, i.bytes)) = some (some (.int .i64 0), 1, 8) := by kernel_rfl
def intCells (xs : List Int) : List Value := xs.map (Value.int .i64)
theorem intCells_len (xs : List Int) : (intCells xs).length = xs.length := by simp [intCells]
theorem intCells_app (a b : List Int) : intCells (a ++ b) = intCells a ++ intCells b := by simp [intCells]
theorem intCells_at (xs : List Int) (k : Nat) (h : k < xs.length) : (intCells xs)[k]? = some (.int .i64 xs[k]) := by simp [intCells, h]
theorem intCells_one (xs : List Int) : ∀ u ∈ intCells xs, u.oneCell' = true := fun u hu => by
  obtain ⟨x, _, rfl⟩ := List.mem_map.1 hu
  rfl
theorem intCells_set (xs : List Int) (k : Nat) (x : Int) : (intCells xs).set k (.int .i64 x) = intCells (xs.set k x) := by simp [intCells, List.map_set]
theorem Lies.int {w : World} {A : Option Addr} {xs : List Int} (h : Lies w A (intCells xs)) (k : Nat) (hk : k < xs.length) : ∃ b off, A = some ⟨b, off, none⟩ ∧ b < w.heap.size ∧ w.cell? ⟨b, off + k, none⟩ = some (.int .i64 xs[k]) := by
  obtain ⟨b, off, e, hlt, hc⟩ := h (by rw [intCells_len]; omega)
  exact ⟨b, off, e, hlt, hc k _ (intCells_at xs k hk)⟩
theorem made_ints (n : Nat) : (madeCells (Value.cells (.int .i64 0)) (n * 1)).toList = intCells (List.replicate n 0) := by
  apply List.ext_getElem
  · simp [madeCells, intCells]
  · intro i h1 h2
    simp [madeCells, Value.cells, Nat.mod_one, intCells]

theorem iset_next (xs : List Int) (k m : Nat) (h : k < xs.length) (hm : xs.length - k = m + 1) :
    (xs.take k ++ List.replicate (xs.length - k) (0 : Int)).set k xs[k] = xs.take (k + 1) ++ List.replicate (xs.length - (k + 1)) 0 := by
  have hl : (xs.take k).length = k := by simp; omega
  rw [hm, show xs.length - (k + 1) = m by omega, List.set_append_right _ _ (by omega), hl, Nat.sub_self, List.replicate_succ, List.set_cons_zero,
    List.take_succ_eq_append_getElem h, List.append_assoc]
  rfl
def IPost (xs : List Int) (w : World) (e : Ending) (w' : World) : Prop :=
  ∃ g, e = .returned (.slice (some ⟨g, 0, none⟩) xs.length xs.length) ∧ w'.ownsRow w.heap.size 3 1 (.slice (some ⟨g, 0, none⟩) xs.length xs.length) xs.length (intCells xs) ∧ Below w.heap.size w w'

set_option maxHeartbeats 1000000 in
theorem to_ints (A : Option Addr) (cap : Nat) (xs : List Int) (w : World) (hn : xs.length ≤ 1048576) (hA : Lies w A (intCells xs)) :
    Calls Try.prog 30 #[.slice A xs.length cap] w (IPost xs w) := by
  obtain ⟨i0, hi, hz0, hz1, hz2⟩ := info_parts Try.info3
  go_enter Try.func30, Try.ntmps30
  go_wp2_with (refine wpList_make_full _ rfl _ _ 49 rfl w.heap.size 3 i0 (.int .i64 0) 1 Try.underlying49 hi hz0 hz1 _ _ _ _ xs.length rfl rfl rfl rfl (by rw [hz2]; omega) (by unfold maxLen; omega) (Nat.le_refl _) ?_; intro w1 hown hgrow; rw [made_ints] at hown)
  go_loopw [4] (fun i wr => ∃ k : Nat, k ≤ xs.length ∧ i = .int .i64 k ∧ wr.ownsRow w.heap.size 3 1 (.slice (some ⟨w.heap.size, 0, none⟩) xs.length xs.length) xs.length (intCells (xs.take k ++ List.replicate (xs.length - k) 0)) ∧ Below w.heap.size w wr) (fun i _ => xs.length - (intOf i).toNat)
  case atStart => exact ⟨0, Nat.zero_le _, rfl, by simpa using hown, (Below.refl _ _).grown hgrow (Nat.le_refl _) (fun k e => by cases e)⟩
  case round =>
    obtain ⟨k, hk, rfl, ho, hb⟩ := hrel
    clear hown hgrow
    by_cases hlt : k < xs.length
    · obtain ⟨b, off, rfl, hlb, hck⟩ := (hA.below hb).int k hlt
      have hlen := ho.1
      have hcg : wr.cell? ⟨w.heap.size, k, none⟩ = some ((intCells (xs.take k ++ List.replicate (xs.length - k) 0))[k]'(by omega)) := by
        rw [ho.cellAt k (by omega)]
        exact List.getElem?_eq_getElem _
      have hfg := ho.frozenAt k
      obtain ⟨m, hm⟩ : ∃ m, xs.length - k = m + 1 := ⟨xs.length - k - 1, by omega⟩
      have hst := (ho.stored k (.int .i64 xs[k])).1
      have hsg := (ho.stored k (.int .i64 xs[k])).2
      rw [intCells_set, iset_next xs k m hlt hm] at hst
      have B1 : Below w.heap.size w (wr.setCell ⟨w.heap.size, k, none⟩ (.int .i64 xs[k])) := hb.setCell (p := ⟨w.heap.size, k, none⟩) (Nat.le_refl _) _
      obtain ⟨y, hy⟩ : ∃ y, y = (intCells (xs.take k ++ List.replicate (xs.length - k) 0))[k]'(by omega) := ⟨_, rfl⟩
      rw [← hy] at hcg
      obtain ⟨x, hx⟩ : ∃ x, x = xs[k] := ⟨_, rfl⟩
      rw [← hx] at hck hst hsg B1
      clear hlen hm hy hx ho hb
      go_wp2
      go_roundw
      case rel => exact ⟨k + 1, by omega, by go_num, hst, B1⟩
      case measure => simp [intOf]; omega
    · have hke : k = xs.length := by omega
      subst hke
      rw [List.take_length, Nat.sub_self] at ho
      simp only [List.replicate_zero, List.append_nil] at ho
      go_wp2
      go_ret
      exact ⟨_, rfl, ho, hb⟩

set_option maxHeartbeats 1000000 in
theorem eq_ints (A B : Option Addr) (ca cb : Nat) (xs : List Int) (w : World) (hn : xs.length ≤ 1048576) (hA : Lies w A (intCells xs)) (hB : Lies w B (intCells xs)) :
    Calls Try.prog 32 #[.slice A xs.length ca, .slice B xs.length cb] w fun e w' => e = .returned (.bool true) ∧ Below w.heap.size w w' := by
  have hq0 : ((xs.length : Int) != (xs.length : Int)) = false := by simp
  go_enter Try.func32, Try.ntmps32
  go_wp2
  go_loopw [5] (fun i wr => ∃ k : Nat, k ≤ xs.length ∧ i = .int .i64 k ∧ Below w.heap.size w wr) (fun i _ => xs.length - (intOf i).toNat)
  case atStart => exact ⟨0, Nat.zero_le _, rfl, Below.refl _ _⟩
  case round =>
    obtain ⟨k, hk, rfl, hb⟩ := hrel
    by_cases hlt : k < xs.length
    · obtain ⟨b, off, rfl, hlb, hck⟩ := (hA.below hb).int k hlt
      obtain ⟨b2, off2, rfl, hlb2, hck2⟩ := (hB.below hb).int k hlt
      obtain ⟨x, hx⟩ : ∃ x, x = xs[k] := ⟨_, rfl⟩
      rw [← hx] at hck hck2
      have hq : (x != x) = false := by simp
      have hlt' : (k : Int) < (xs.length : Int) := by omega
      clear hx
      go_wp2_with fail
      go_quiet (fail)
      go_wp2
      go_roundw
      case rel => exact ⟨k + 1, by omega, by go_num, below_drewN hb _⟩
      case measure => simp [intOf]; omega
    · have hke : k = xs.length := by omega
      subst hke
      go_wp2
      go_ret
      exact ⟨rfl, hb⟩

/-- The imarks of a law. -/
def imarks (a : Int) (n : Nat) : List Int := (List.range n).map fun (i : Nat) => a + (i : Int)
theorem imarks_len (a : Int) (n : Nat) : (imarks a n).length = n := by simp [imarks]
theorem imarks_next (a : Int) (n : Nat) : imarks a (n + 1) = imarks a n ++ [a + (n : Int)] := by simp [imarks, List.range_succ]
theorem imarks_at (a : Int) (n k : Nat) (h : k < n) : (intCells (imarks a n))[k]? = some (.int .i64 (a + (k : Int))) := by
  simp [intCells, imarks, h]
theorem iset_mark (a : Int) (xs : List Int) (k : Nat) (h : k < xs.length) : (imarks a k ++ xs.drop k).set k (a + (k : Int)) = imarks a (k + 1) ++ xs.drop (k + 1) := by
  rw [imarks_next, List.drop_eq_getElem_cons h, List.set_append_right _ _ (by rw [imarks_len]; omega), imarks_len, Nat.sub_self, List.set_cons_zero, List.append_assoc]
  rfl
def IMark (base : Nat) (v : Value) (a : Int) (n : Nat) (w : World) (e : Ending) (w' : World) : Prop :=
  e = .returned (.int .i64 (a + (n : Int))) ∧ w'.ownsRow base 3 1 v n (intCells (imarks a n)) ∧ w.grownBy w' v.ownBlock

set_option maxHeartbeats 1000000 in
theorem mark_ints (base : Nat) (A : Option Addr) (c : Nat) (xs : List Int) (a : Int) (w : World) (ha : 1 ≤ a) (hn : a + xs.length ≤ 9999999) (ho : w.ownsRow base 3 1 (.slice A xs.length c) xs.length (intCells xs)) :
    Calls Try.prog 33 #[.slice A xs.length c, .int .i64 a] w (IMark base (.slice A xs.length c) a xs.length w) := by
  go_enter Try.func33, Try.ntmps33
  go_wp2
  go_loopg [1, 5] xs.length (fun gh m i wr => ∃ k : Nat, gh = xs.length - k ∧ k ≤ xs.length ∧ i = .int .i64 k ∧ m = .int .i64 (a + (k : Int)) ∧ wr.ownsRow base 3 1 (.slice A xs.length c) xs.length (intCells (imarks a k ++ xs.drop k)) ∧ w.grownBy wr (Value.slice A xs.length c).ownBlock)
  case atStart => exact ⟨0, rfl, Nat.zero_le _, rfl, by simp, by simpa [imarks] using ho, World.grownBy.refl _ _⟩
  case round =>
    clear ho
    obtain ⟨k, hg, hk, rfl, rfl, ho, hb⟩ := hrel
    have HG := Lib.hid hg
    clear hg
    by_cases hlt : k < xs.length
    · obtain ⟨g, rfl⟩ := own_addr ho (by omega)
      have hset := iset_mark a xs k hlt
      have hlt' : (k : Int) < (xs.length : Int) := by omega
      have hw1 := IntWalk.i64_in (a + (k : Int) + 1) (by omega)
      have hlen := ho.1
      have hcg : wr.cell? ⟨g, k, none⟩ = some ((intCells (imarks a k ++ xs.drop k))[k]'(by omega)) := by
        rw [ho.cellAt k (by omega)]
        exact List.getElem?_eq_getElem _
      have hfg := ho.frozenAt k
      have hst := (ho.stored k (.int .i64 (a + (k : Int)))).1
      have hsg := (ho.stored k (.int .i64 (a + (k : Int)))).2
      rw [intCells_set, hset] at hst
      have G2 := grown_trans hb hsg
      obtain ⟨y, hy⟩ : ∃ y, y = (intCells (imarks a k ++ xs.drop k))[k]'(by omega) := ⟨_, rfl⟩
      rw [← hy] at hcg
      clear hlen hy ho hb hset
      go_wp2_with fail
      go_roundg (xs.length - (k + 1))
      case measure => have := HG.out; omega
      case rel => exact ⟨k + 1, rfl, by omega, by go_num, by go_num, hst, G2⟩
    · have hke : k = xs.length := by omega
      subst hke
      rw [List.drop_length, List.append_nil] at ho
      go_wp2_with fail
      go_ret
      exact ⟨rfl, ho, hb⟩
end Go.Proofs.Ytndckncoipkhaaa
