/-
  A disk of a set is lost.
-/
import Derived.Test.YtndckncoipkhaaaRFs
namespace Go.Proofs.Ytndckncoipkhaaa
open Go.RowKit

def loseR (R : List Dk) (n : Int) : List Dk × Bool := if RsOk R ∧ 0 ≤ n ∧ n ≤ 2 then (R.set n.toNat loseD, true) else ([], false)
theorem loseR_yes {R : List Dk} {n : Int} (h : RsOk R) (hn : 0 ≤ n ∧ n ≤ 2) : loseR R n = (R.set n.toNat loseD, true) := if_pos ⟨h, hn⟩
theorem loseR_no {R : List Dk} {n : Int} (h : ¬ (RsOk R ∧ 0 ≤ n ∧ n ≤ 2)) : loseR R n = ([], false) := if_neg h
theorem in72 (n : Int) (w : World) : Calls Try.prog 72 #[.int .i64 n, .int .i64 0, .int .i64 2] w fun r w' => r = .returned (.bool (decide (0 ≤ n ∧ n ≤ 2))) ∧ w' = w := by
  by_cases h1 : 0 ≤ n
  · by_cases h2 : n ≤ 2
    · go_enter Try.func72, Try.ntmps72
      go_wp2_with fail
      go_ret
      exact ⟨by simp [h1, h2], rfl⟩
    · go_enter Try.func72, Try.ntmps72
      go_wp2_with fail
      go_ret
      exact ⟨by rw [decide_eq_false (by omega)]; rfl, rfl⟩
  · go_enter Try.func72, Try.ntmps72
    go_wp2_with fail
    go_ret
    exact ⟨by rw [decide_eq_false (by omega)]; rfl, rfl⟩
theorem in74 (n : Int) (w : World) : Calls Try.prog 74 #[.int .i64 n, .int .i64 0, .int .i64 2] w fun r w' => r = .returned (.bool (decide (0 ≤ n ∧ n ≤ 2))) ∧ w' = w := by
  by_cases h1 : 0 ≤ n
  · by_cases h2 : n ≤ 2
    · go_enter Try.func74, Try.ntmps74
      go_wp2_with fail
      go_ret
      exact ⟨by simp [h1, h2], rfl⟩
    · go_enter Try.func74, Try.ntmps74
      go_wp2_with fail
      go_ret
      exact ⟨by rw [decide_eq_false (by omega)]; rfl, rfl⟩
  · go_enter Try.func74, Try.ntmps74
    go_wp2_with fail
    go_ret
    exact ⟨by rw [decide_eq_false (by omega)]; rfl, rfl⟩

theorem ROwn.drew {W : World} {base : Nat} {u : Value} {ps : List RD} (h : ROwn W base u ps) : ROwn W.drew base u ps := ⟨h.1, ⟨h.2.each, h.2.apart⟩⟩
/-- A new disk is put in the place of one. -/
theorem rown_swap {W W' : World} {base g c k : Nat} {qs : List RD} (h : ROwn W base (.slice (some ⟨g, 0, none⟩) qs.length c) qs) (hb : Below W.heap.size W W') (hk : k < qs.length) {A' B' : Option Addr} {c' e' : Nat} {D : Dk} (hd : DkOwn W' W.heap.size (.agg #[.slice A' D.cells.length c', .slice B' D.waits.length e', .bool D.gone]) D) :
    ∃ ps : List RD, ps.length = qs.length ∧ dks ps = (dks qs).set k D ∧ ROwn (((W'.setCell ⟨g, k * 3, none⟩ (.slice A' D.cells.length c')).setCell ⟨g, k * 3 + 1, none⟩ (.slice B' D.waits.length e')).setCell ⟨g, k * 3 + 2, none⟩ (.bool D.gone)) base (.slice (some ⟨g, 0, none⟩) ps.length c) ps := by
  obtain ⟨q, hq⟩ : ∃ q : RD, q = ⟨A', c', B', e', D, W.heap.size, W'.heap.size⟩ := ⟨_, rfl⟩
  have hgl : g < W.heap.size := (h.1.lt g rfl).2
  have hbw : base ≤ W.heap.size := by have := (h.1.lt g rfl).1; omega
  have h' := h.below hb
  have e1 : q.a = A' ∧ q.c = c' ∧ q.b = B' ∧ q.e = e' ∧ q.d = D ∧ q.l = W.heap.size ∧ q.h = W'.heap.size := by rw [hq]; exact ⟨rfl, rfl, rfl, rfl, rfl, rfl, rfl⟩
  have row := ((((h'.1.stored (k * 3) (.slice q.a q.d.cells.length q.c)).1).stored (k * 3 + 1) (.slice q.b q.d.waits.length q.e)).1.stored (k * 3 + 2) (.bool q.d.gone)).1
  rw [trios_set qs k hk q] at row
  have hin : DkIn W' q.l q.h q.val q.d := by rw [hq]; exact hd.in_
  have st := h'.2.set (j := k) (p := q) hin (by rw [e1.2.2.2.2.2.1]; exact hbw) (by rw [e1.2.2.2.2.2.1, e1.2.2.2.2.2.2]; exact hb.size) (by rw [e1.2.2.2.2.2.2]; exact Nat.le_refl _) (fun b hbb => by have hb2 : g = b := Option.some.inj hbb; rw [e1.2.2.2.2.2.1]; omega) (fun i hi hne => .inl (by rw [e1.2.2.2.2.2.1]; exact (h.2.each _ (List.getElem_mem hi)).2.2.2.1))
  have st3 := ((st.row (grown_set W' ⟨g, k * 3, none⟩ (.slice q.a q.d.cells.length q.c))).row (grown_set _ ⟨g, k * 3 + 1, none⟩ (.slice q.b q.d.waits.length q.e))).row (grown_set _ ⟨g, k * 3 + 2, none⟩ (.bool q.d.gone))
  simp only [e1.1, e1.2.1, e1.2.2.1, e1.2.2.2.1, e1.2.2.2.2.1] at row st3
  have hl : (qs.set k q).length = qs.length := List.length_set
  refine ⟨qs.set k q, hl, by rw [dks_set, e1.2.2.2.2.1], ?_⟩
  rw [hl]
  exact ⟨by rw [hl]; exact row, st3.top (by simp [World.setCell])⟩

set_option maxRecDepth 100000 in
set_option maxHeartbeats 4000000 in
theorem spec_rlose (A : Option Addr) (cap : Nat) (ps : List RD) (n : Int) (w : World) (hn : ps.length ≤ 1048576) (hf : ∀ p ∈ ps, Bulk p.d) (hA : RAt w A ps) :
    Calls Try.prog 34 #[.agg #[.slice A ps.length cap], .int .i64 n] w (RPost2 (loseR (dks ps) n).1 (loseR (dks ps) n).2 w) := by
  have bl : Below w.heap.size w ((w.alloc (.cells #[.slice A ps.length cap] 24)).alloc (.cells #[.slice none 0 0] 24)) := bel_new (bel_new (Below.refl _ _) _) _
  have b0 := (B1.new w 24 (.slice A ps.length cap)).alloc (.cells #[.slice none 0 0] 24)
  have b1 := B1.new (w.alloc (.cells #[.slice A ps.length cap] 24)) 24 (.slice none 0 0)
  rw [World.size_alloc] at b1
  have hH := spec_rok A cap ps _ hn hf (hA.below bl)
  have hI := fun W => in72 n W
  by_cases hok : RsOk (dks ps)
  · have h3 : Hid (ps.length = 3) := Lib.hid (by have := hok.1; rwa [dks_len] at this)
    rw [okR_yes hok] at hH
    by_cases hin : 0 ≤ n ∧ n ≤ 2
    · rw [loseR_yes hok hin]
      simp only [decide_eq_true hin] at hI
      obtain ⟨k, rfl⟩ : ∃ k : Nat, n = k := ⟨n.toNat, by omega⟩
      have hk : k < 3 := by omega
      simp only [Int.toNat_natCast]
      have hR := fun W (hW : Below w.heap.size w W) => spec_rcopy A cap ps W hn hf (hA.below hW)
      have hL := fun W => spec_lose W
      obtain ⟨D, hD⟩ : ∃ D, D = loseD := ⟨_, rfl⟩
      simp only [← hD] at hL ⊢
      clear hf hA hok hin hD
      go_enter Try.func34, Try.ntmps34
      go_wp2_with (go_at_call 17; refine hH.mono ?_; rintro r w2 ⟨rfl, hb2⟩; refine Hid.out ?_)
      refine Lib.hid ?_
      have c0 := b0.below hb2
      have c1 := b1.below hb2
      have s2 := hb2.size
      have BB := bel_then bl hb2
      clear hH hb2 b0 b1 bl
      go_wp2_with (go_at_call 72; refine (hI _).mono ?_; rintro r w2' ⟨rfl, hww⟩; obtain rfl := hww.symm; refine Hid.out ?_)
      refine Lib.hid ?_
      have L := hR _ BB
      clear hR hI
      obtain ⟨x0, _⟩ := c0.cells
      go_wp2_with (go_at_call 50; refine L.mono ?_; rintro r w3 ⟨qs, A2, c2, rfl, hq, ho, hb3⟩; refine Hid.out ?_)
      refine Lib.hid ?_
      have d1 := c1.below hb3
      have s3 := hb3.size
      have BB := bel_then BB hb3
      have hql := dks_same hq
      obtain ⟨g, rfl, hg, hgb⟩ := own_goneAt ho.1 (by rw [hql, h3.out]; decide)
      have hlt2 : w.heap.size + 1 < w2.heap.size := c1.lt
      clear L x0 c0 c1 hb3
      have hqk : k < qs.length := by rw [hql, h3.out]; exact hk
      have bo := B1.new w3 24 (.slice (some ⟨g, 0, none⟩) qs.length c2)
      have bl : Below w3.heap.size w3 (w3.alloc (.cells #[.slice (some ⟨g, 0, none⟩) qs.length c2] 24)) := (Below.refl _ _).alloc (Nat.le_refl _) _
      have ho := ho.below bl
      have d1 := d1.below bl
      have BB := bel_then BB bl
      have hql2 : qs.length ≤ 1048576 := by rw [hql]; exact hn
      have HQ := Lib.hid hq
      have HL := Lib.hid hql
      have ho' := Lib.hid ho
      have hrow := ho.1
      clear bl hq hql ho h3 hn
      obtain ⟨x0, _⟩ := bo.cells
      have hkn : (k : Int) < (qs.length : Int) := by omega
      have hgo : g < w3.heap.size + 1 := by omega
      go_wp2_with fail
      have hgl : g < (w3.alloc (.cells #[.slice (some ⟨g, 0, none⟩) qs.length c2] 24)).heap.size := (hrow.lt g rfl).2
      have hol : w3.heap.size < (w3.alloc (.cells #[.slice (some ⟨g, 0, none⟩) qs.length c2] 24)).heap.size := bo.lt
      have sW : w2.heap.size ≤ (w3.alloc (.cells #[.slice (some ⟨g, 0, none⟩) qs.length c2] 24)).heap.size := by rw [World.size_alloc]; omega
      generalize hWW : w3.alloc (.cells #[.slice (some ⟨g, 0, none⟩) qs.length c2] 24) = W at *
      clear hWW
      have HS := Lib.hid hqk
      have cells := fun i v (hi : i < 3) (hv : (qs[k].trio)[i]? = some v) => (hrow.cellAt (k * 3 + i) (by omega)).trans ((trios_at qs k i hqk hi).trans hv)
      have z0 : W.cell? ⟨g, k * 3, none⟩ = some (.slice qs[k].a qs[k].d.cells.length qs[k].c) := cells 0 _ (by decide) rfl
      have z1 : W.cell? ⟨g, k * 3 + 1, none⟩ = some (.slice qs[k].b qs[k].d.waits.length qs[k].e) := cells 1 _ (by decide) rfl
      have z2 : W.cell? ⟨g, k * 3 + 2, none⟩ = some (.bool qs[k].d.gone) := cells 2 _ (by decide) rfl
      obtain ⟨P, hP⟩ : ∃ P, P = qs[k] := ⟨_, rfl⟩
      rw [← hP] at z0 z1 z2
      clear cells hP
      go_region_law (go_simp; go_at_call 73; refine (hL W.drew).mono ?_; rintro r w4 ⟨A', c', B', e', rfl, hv, hb4⟩; have x0' := (B1.below (W := W.drew) bo hb4).cells.1; have hrow4 := own_bel (w := W.drew) hrow hb4; have z0' := (hb4.cell (p := ⟨g, k * 3, none⟩) hgl).trans (show W.drew.cell? ⟨g, k * 3, none⟩ = _ from z0); have z1' := (hb4.cell (p := ⟨g, k * 3 + 1, none⟩) hgl).trans (show W.drew.cell? ⟨g, k * 3 + 1, none⟩ = _ from z1); have z2' := (hb4.cell (p := ⟨g, k * 3 + 2, none⟩) hgl).trans (show W.drew.cell? ⟨g, k * 3 + 2, none⟩ = _ from z2); have fz0' := hrow4.frozenAt (k * 3); have fz1' := hrow4.frozenAt (k * 3 + 1); have fz2' := hrow4.frozenAt (k * 3 + 2))
      all_goals
        obtain ⟨rs, hrl, hrd, hro⟩ := rown_swap (W := W.drew) ho'.out.drew hb4 HS.out hv
        have e1 := (B1.below (W := W.drew) d1 hb4)
        have o1 := (B1.below (W := W.drew) bo hb4)
        have B4 := bel_then BB.drew hb4
        have gne : w.heap.size + 1 ≠ g := by omega
        have one : w3.heap.size ≠ g := by omega
        have e2 := (((e1.set (p := ⟨g, k * 3, none⟩) gne (.slice A' D.cells.length c')).set (p := ⟨g, k * 3 + 1, none⟩) gne (.slice B' D.waits.length e')).set (p := ⟨g, k * 3 + 2, none⟩) gne (.bool D.gone))
        have o2 := (((o1.set (p := ⟨g, k * 3, none⟩) one (.slice A' D.cells.length c')).set (p := ⟨g, k * 3 + 1, none⟩) one (.slice B' D.waits.length e')).set (p := ⟨g, k * 3 + 2, none⟩) one (.bool D.gone))
        have wg : w.heap.size ≤ g := by omega
        have B5 := ((B4.setCell (p := ⟨g, k * 3, none⟩) wg (.slice A' D.cells.length c')).setCell (p := ⟨g, k * 3 + 1, none⟩) wg (.slice B' D.waits.length e')).setCell (p := ⟨g, k * 3 + 2, none⟩) wg (.bool D.gone)
        rw [HQ.out] at hrd
        generalize hVV : ((w4.setCell ⟨g, k * 3, none⟩ (.slice A' D.cells.length c')).setCell ⟨g, k * 3 + 1, none⟩ (.slice B' D.waits.length e')).setCell ⟨g, k * 3 + 2, none⟩ (.bool D.gone) = V at *
        clear hVV
        obtain ⟨y0, f0⟩ := e2.cells
        obtain ⟨x1, _⟩ := o2.cells
        rw [← hrl] at x1
        have hro' := Lib.hid hro
        have hlt3 := e2.lt
        clear hro
        go_wp2_with fail
        exact bodyPost_ret (v := .tuple #[.agg #[.slice (some ⟨g, 0, none⟩) rs.length c2], .bool true]) (by simp [results, Try.f34, go_sem, y0]; exact hrl.symm) rfl ⟨rs, some ⟨g, 0, none⟩, c2, rfl, hrd, (hro'.out.set (p := ⟨w.heap.size + 1, 0, none⟩) hlt2 _).base (by omega), B5.setCell (p := ⟨w.heap.size + 1, 0, none⟩) (Nat.le_succ _) _⟩
    · have hin2 : decide (0 ≤ n ∧ n ≤ 2) = false := decide_eq_false hin
      rw [loseR_no (fun h => hin h.2)]
      simp only [hin2] at hI
      clear hf hA hok hin hin2 h3
      go_enter Try.func34, Try.ntmps34
      go_wp2_with (go_at_call 17; refine hH.mono ?_; rintro r w2 ⟨rfl, hb2⟩; refine Hid.out ?_)
      refine Lib.hid ?_
      obtain ⟨y0, f0⟩ := (b1.below hb2).cells
      have hlt := (b1.below hb2).lt
      have BB := bel_then bl hb2
      clear hH hb2 b0 b1 bl
      go_wp2_with (go_at_call 72; refine (hI _).mono ?_; rintro r w2' ⟨rfl, hww⟩; obtain rfl := hww.symm)
      exact bodyPost_ret (v := .tuple #[.agg #[.slice none 0 0], .bool false]) (by simp [results, Try.f34, go_sem, y0]) rfl ⟨[], none, 0, rfl, rfl, ROwn.none _ _, BB.setCell (p := ⟨w.heap.size + 1, 0, none⟩) (Nat.le_succ _) _⟩
  · rw [okR_no hok] at hH
    rw [loseR_no (fun h => hok h.1)]
    clear hok hf hA hI
    obtain ⟨x0, _⟩ := b0.cells
    go_enter Try.func34, Try.ntmps34
    go_wp2_with (go_at_call 17; refine hH.mono ?_; rintro r w2 ⟨rfl, hb2⟩; obtain ⟨y0, f0⟩ := (b1.below hb2).cells)
    have hlt := (b1.below hb2).lt
    exact bodyPost_ret (v := .tuple #[.agg #[.slice none 0 0], .bool false]) (by simp [results, Try.f34, go_sem, y0]) rfl ⟨[], none, 0, rfl, rfl, ROwn.none _ _, (bel_then bl hb2).setCell (p := ⟨w.heap.size + 1, 0, none⟩) (Nat.le_succ _) _⟩

set_option maxRecDepth 100000 in
set_option maxHeartbeats 4000000 in
theorem impl_rlose (A : Option Addr) (cap : Nat) (ps : List RD) (n : Int) (w : World) (hn : ps.length ≤ 1048576) (hf : ∀ p ∈ ps, Bulk p.d) (hA : RAt w A ps) :
    Calls Try.prog 35 #[.agg #[.slice A ps.length cap], .int .i64 n] w (RPost2 (loseR (dks ps) n).1 (loseR (dks ps) n).2 w) := by
  have bl : Below w.heap.size w ((w.alloc (.cells #[.slice A ps.length cap] 24)).alloc (.cells #[.slice none 0 0] 24)) := bel_new (bel_new (Below.refl _ _) _) _
  have b0 := (B1.new w 24 (.slice A ps.length cap)).alloc (.cells #[.slice none 0 0] 24)
  have b1 := B1.new (w.alloc (.cells #[.slice A ps.length cap] 24)) 24 (.slice none 0 0)
  rw [World.size_alloc] at b1
  have hH := m_rok A cap ps _ hn hf (hA.below bl)
  have hI := fun W => in74 n W
  by_cases hok : RsOk (dks ps)
  · have h3 : Hid (ps.length = 3) := Lib.hid (by have := hok.1; rwa [dks_len] at this)
    rw [okR_yes hok] at hH
    by_cases hin : 0 ≤ n ∧ n ≤ 2
    · rw [loseR_yes hok hin]
      simp only [decide_eq_true hin] at hI
      obtain ⟨k, rfl⟩ : ∃ k : Nat, n = k := ⟨n.toNat, by omega⟩
      have hk : k < 3 := by omega
      simp only [Int.toNat_natCast]
      have hR := fun W (hW : Below w.heap.size w W) => impl_rcopied A cap ps W h3.out hf (hA.below hW)
      have hL := fun W => impl_lose W
      obtain ⟨D, hD⟩ : ∃ D, D = loseD := ⟨_, rfl⟩
      simp only [← hD] at hL ⊢
      clear hf hA hok hin hD
      go_enter Try.func35, Try.ntmps35
      go_wp2_with (go_at_call 46; refine hH.mono ?_; rintro r w2 ⟨rfl, hb2⟩; refine Hid.out ?_)
      refine Lib.hid ?_
      have c0 := b0.below hb2
      have c1 := b1.below hb2
      have s2 := hb2.size
      have BB := bel_then bl hb2
      clear hH hb2 b0 b1 bl
      go_wp2_with (go_at_call 74; refine (hI _).mono ?_; rintro r w2' ⟨rfl, hww⟩; obtain rfl := hww.symm; refine Hid.out ?_)
      refine Lib.hid ?_
      have L := hR _ BB
      clear hR hI
      obtain ⟨x0, _⟩ := c0.cells
      go_wp2_with (go_at_call 75; refine L.mono ?_; rintro r w3 ⟨qs, A2, c2, rfl, hq, ho, hb3⟩; refine Hid.out ?_)
      refine Lib.hid ?_
      have d1 := c1.below hb3
      have s3 := hb3.size
      have BB := bel_then BB hb3
      have hql := dks_same hq
      obtain ⟨g, rfl, hg, hgb⟩ := own_goneAt ho.1 (by rw [hql, h3.out]; decide)
      have hlt2 : w.heap.size + 1 < w2.heap.size := c1.lt
      clear L x0 c0 c1 hb3
      have hqk : k < qs.length := by rw [hql, h3.out]; exact hk
      have bo := B1.new w3 24 (.slice (some ⟨g, 0, none⟩) qs.length c2)
      have bl : Below w3.heap.size w3 (w3.alloc (.cells #[.slice (some ⟨g, 0, none⟩) qs.length c2] 24)) := (Below.refl _ _).alloc (Nat.le_refl _) _
      have ho := ho.below bl
      have d1 := d1.below bl
      have BB := bel_then BB bl
      have hql2 : qs.length ≤ 1048576 := by rw [hql]; exact hn
      have HQ := Lib.hid hq
      have HL := Lib.hid hql
      have ho' := Lib.hid ho
      have hrow := ho.1
      clear bl hq hql ho h3 hn
      obtain ⟨x0, _⟩ := bo.cells
      have hkn : (k : Int) < (qs.length : Int) := by omega
      have hgo : g < w3.heap.size + 1 := by omega
      go_wp2_with fail
      have hgl : g < (w3.alloc (.cells #[.slice (some ⟨g, 0, none⟩) qs.length c2] 24)).heap.size := (hrow.lt g rfl).2
      have hol : w3.heap.size < (w3.alloc (.cells #[.slice (some ⟨g, 0, none⟩) qs.length c2] 24)).heap.size := bo.lt
      have sW : w2.heap.size ≤ (w3.alloc (.cells #[.slice (some ⟨g, 0, none⟩) qs.length c2] 24)).heap.size := by rw [World.size_alloc]; omega
      generalize hWW : w3.alloc (.cells #[.slice (some ⟨g, 0, none⟩) qs.length c2] 24) = W at *
      clear hWW
      have HS := Lib.hid hqk
      have cells := fun i v (hi : i < 3) (hv : (qs[k].trio)[i]? = some v) => (hrow.cellAt (k * 3 + i) (by omega)).trans ((trios_at qs k i hqk hi).trans hv)
      have z0 : W.cell? ⟨g, k * 3, none⟩ = some (.slice qs[k].a qs[k].d.cells.length qs[k].c) := cells 0 _ (by decide) rfl
      have z1 : W.cell? ⟨g, k * 3 + 1, none⟩ = some (.slice qs[k].b qs[k].d.waits.length qs[k].e) := cells 1 _ (by decide) rfl
      have z2 : W.cell? ⟨g, k * 3 + 2, none⟩ = some (.bool qs[k].d.gone) := cells 2 _ (by decide) rfl
      obtain ⟨P, hP⟩ : ∃ P, P = qs[k] := ⟨_, rfl⟩
      rw [← hP] at z0 z1 z2
      clear cells hP
      go_region_law (go_simp; go_at_call 76; refine (hL W.drew).mono ?_; rintro r w4 ⟨A', c', B', e', rfl, hv, hb4⟩; have x0' := (B1.below (W := W.drew) bo hb4).cells.1; have hrow4 := own_bel (w := W.drew) hrow hb4; have z0' := (hb4.cell (p := ⟨g, k * 3, none⟩) hgl).trans (show W.drew.cell? ⟨g, k * 3, none⟩ = _ from z0); have z1' := (hb4.cell (p := ⟨g, k * 3 + 1, none⟩) hgl).trans (show W.drew.cell? ⟨g, k * 3 + 1, none⟩ = _ from z1); have z2' := (hb4.cell (p := ⟨g, k * 3 + 2, none⟩) hgl).trans (show W.drew.cell? ⟨g, k * 3 + 2, none⟩ = _ from z2); have fz0' := hrow4.frozenAt (k * 3); have fz1' := hrow4.frozenAt (k * 3 + 1); have fz2' := hrow4.frozenAt (k * 3 + 2))
      all_goals
        obtain ⟨rs, hrl, hrd, hro⟩ := rown_swap (W := W.drew) ho'.out.drew hb4 HS.out hv
        have e1 := (B1.below (W := W.drew) d1 hb4)
        have o1 := (B1.below (W := W.drew) bo hb4)
        have B4 := bel_then BB.drew hb4
        have gne : w.heap.size + 1 ≠ g := by omega
        have one : w3.heap.size ≠ g := by omega
        have e2 := (((e1.set (p := ⟨g, k * 3, none⟩) gne (.slice A' D.cells.length c')).set (p := ⟨g, k * 3 + 1, none⟩) gne (.slice B' D.waits.length e')).set (p := ⟨g, k * 3 + 2, none⟩) gne (.bool D.gone))
        have o2 := (((o1.set (p := ⟨g, k * 3, none⟩) one (.slice A' D.cells.length c')).set (p := ⟨g, k * 3 + 1, none⟩) one (.slice B' D.waits.length e')).set (p := ⟨g, k * 3 + 2, none⟩) one (.bool D.gone))
        have wg : w.heap.size ≤ g := by omega
        have B5 := ((B4.setCell (p := ⟨g, k * 3, none⟩) wg (.slice A' D.cells.length c')).setCell (p := ⟨g, k * 3 + 1, none⟩) wg (.slice B' D.waits.length e')).setCell (p := ⟨g, k * 3 + 2, none⟩) wg (.bool D.gone)
        rw [HQ.out] at hrd
        generalize hVV : ((w4.setCell ⟨g, k * 3, none⟩ (.slice A' D.cells.length c')).setCell ⟨g, k * 3 + 1, none⟩ (.slice B' D.waits.length e')).setCell ⟨g, k * 3 + 2, none⟩ (.bool D.gone) = V at *
        clear hVV
        obtain ⟨y0, f0⟩ := e2.cells
        obtain ⟨x1, _⟩ := o2.cells
        rw [← hrl] at x1
        have hro' := Lib.hid hro
        have hlt3 := e2.lt
        clear hro
        go_wp2_with fail
        exact bodyPost_ret (v := .tuple #[.agg #[.slice (some ⟨g, 0, none⟩) rs.length c2], .bool true]) (by simp [results, Try.f35, go_sem, y0]; exact hrl.symm) rfl ⟨rs, some ⟨g, 0, none⟩, c2, rfl, hrd, (hro'.out.set (p := ⟨w.heap.size + 1, 0, none⟩) hlt2 _).base (by omega), B5.setCell (p := ⟨w.heap.size + 1, 0, none⟩) (Nat.le_succ _) _⟩
    · have hin2 : decide (0 ≤ n ∧ n ≤ 2) = false := decide_eq_false hin
      rw [loseR_no (fun h => hin h.2)]
      simp only [hin2] at hI
      clear hf hA hok hin hin2 h3
      go_enter Try.func35, Try.ntmps35
      go_wp2_with (go_at_call 46; refine hH.mono ?_; rintro r w2 ⟨rfl, hb2⟩; refine Hid.out ?_)
      refine Lib.hid ?_
      obtain ⟨y0, f0⟩ := (b1.below hb2).cells
      have hlt := (b1.below hb2).lt
      have BB := bel_then bl hb2
      clear hH hb2 b0 b1 bl
      go_wp2_with (go_at_call 74; refine (hI _).mono ?_; rintro r w2' ⟨rfl, hww⟩; obtain rfl := hww.symm)
      exact bodyPost_ret (v := .tuple #[.agg #[.slice none 0 0], .bool false]) (by simp [results, Try.f35, go_sem, y0]) rfl ⟨[], none, 0, rfl, rfl, ROwn.none _ _, BB.setCell (p := ⟨w.heap.size + 1, 0, none⟩) (Nat.le_succ _) _⟩
  · rw [okR_no hok] at hH
    rw [loseR_no (fun h => hok h.1)]
    clear hok hf hA hI
    obtain ⟨x0, _⟩ := b0.cells
    go_enter Try.func35, Try.ntmps35
    go_wp2_with (go_at_call 46; refine hH.mono ?_; rintro r w2 ⟨rfl, hb2⟩; obtain ⟨y0, f0⟩ := (b1.below hb2).cells)
    have hlt := (b1.below hb2).lt
    exact bodyPost_ret (v := .tuple #[.agg #[.slice none 0 0], .bool false]) (by simp [results, Try.f35, go_sem, y0]) rfl ⟨[], none, 0, rfl, rfl, ROwn.none _ _, (bel_then bl hb2).setCell (p := ⟨w.heap.size + 1, 0, none⟩) (Nat.le_succ _) _⟩
end Go.Proofs.Ytndckncoipkhaaa
