/-
  Sets of disks that are flushed, both ways.
-/
import Derived.Test.YtndckncoipkhaaaRFl
import Derived.Test.YtndckncoipkhaaaRW
namespace Go.Proofs.Ytndckncoipkhaaa
open Go.RowKit

theorem flushR_yes {R : List Dk} (h : RsOk R) : flushR R = R.map flushD := if_pos h
theorem flushR_no {R : List Dk} (h : ¬ RsOk R) : flushR R = [] := if_neg h
theorem RKeep.none (W : World) (lo hi : Nat) : RKeep W lo hi (.slice none 0 0) [] := ⟨⟨⟨rfl, .inl ⟨rfl, rfl⟩⟩, fun k h => by cases h⟩, fun p hp => by cases hp⟩
theorem ROwn.none (W : World) (base : Nat) : ROwn W base (.slice none 0 0) [] := ⟨⟨rfl, .inl ⟨rfl, rfl⟩⟩, RIn.nil _ _ _ _⟩

theorem flush1 (a : Nat) (A : Option Addr) (n c : Nat) (ps : List RD) (j : Nat) (w : World) (ha : w.cell? ⟨a, 0, none⟩ = some (.slice A n c)) (hal : a < w.heap.size) (hn : n = ps.length) (hj : j < ps.length) (hn2 : ps.length ≤ 1048576) (hf : ∀ p ∈ ps, Bulk p.d) (hA : RAt w A ps) :
    Calls Try.prog 66 #[.int .i64 (j : Int), .pointer (some ⟨a, 0, none⟩)] w (DPost (flushD ps[j].d) w) := by
  have bl : Below w.heap.size w (w.alloc (.cells #[.slice none 0 0, .slice none 0 0, .bool false] 60)) := bel_new (Below.refl _ _) _
  have b0 := Bx.new w 60 (.slice none 0 0) (.slice none 0 0) (.bool false)
  obtain ⟨b, off, rfl, hlb, z0, z1, z2, hd⟩ := (hA.below bl).cell j hj
  have hfp := hf ps[j] (List.getElem_mem hj)
  have hj2 : j < n := by omega
  have hjn : (j : Int) < (n : Int) := by omega
  have ha2 := (bl.cell (p := ⟨a, 0, none⟩) hal).trans ha
  have hI := impl_flush ps[j].a ps[j].b ps[j].c ps[j].e ps[j].d _ hfp hd
  obtain ⟨P, hP⟩ : ∃ P, P = ps[j] := ⟨_, rfl⟩
  rw [← hP] at z0 z1 z2 hI ⊢
  obtain ⟨D, hD⟩ : ∃ D, D = flushD P.d := ⟨_, rfl⟩
  rw [← hD] at hI ⊢
  have hnb : n ≤ 1048576 := by omega
  clear hP hfp hd hA hf hj hn hn2 ha hD
  go_enter Try.func66, Try.ntmps66
  go_wp2_with (go_at_call 67; refine hI.mono ?_; rintro r w2 ⟨A', c', B', e', rfl, hv, hb2⟩; obtain ⟨⟨y0, y1, y2⟩, f0, f1, f2⟩ := (b0.below hb2).cells)
  have hlt := b0.lt
  exact bodyPost_ret (v := .agg #[.slice A' D.cells.length c', .slice B' D.waits.length e', .bool D.gone]) (by simp [results, Try.f66, go_sem, y0, y1, y2]) rfl ⟨A', c', B', e', rfl, (hv.box hlt _ _ _).base (by simp), bel_box (bel_then bl hb2) (Nat.le_refl _) _ _ _⟩
theorem three_map (F : Dk → Dk) {ps : List RD} (h : ps.length = 3) : [F ((dks ps).getD 0 dk0), F ((dks ps).getD 1 dk0), F ((dks ps).getD 2 dk0)] = (dks ps).map F := by
  match ps, h with
  | [a, b, c], _ => rfl
set_option maxRecDepth 100000 in
set_option maxHeartbeats 2000000 in
theorem impl_rflush (A : Option Addr) (cap : Nat) (ps : List RD) (w : World) (hn : ps.length ≤ 1048576) (hf : ∀ p ∈ ps, Bulk p.d) (hA : RAt w A ps) :
    Calls Try.prog 28 #[.agg #[.slice A ps.length cap]] w (RPost (flushR (dks ps)) w) := by
  have bl : Below w.heap.size w ((w.alloc (.cells #[.slice A ps.length cap] 24)).alloc (.cells #[.slice none 0 0] 24)) := bel_new (bel_new (Below.refl _ _) _) _
  have b0 := (B1.new w 24 (.slice A ps.length cap)).alloc (.cells #[.slice none 0 0] 24)
  have b1 := B1.new (w.alloc (.cells #[.slice A ps.length cap] 24)) 24 (.slice none 0 0)
  rw [World.size_alloc] at b1
  have hH := m_rok A cap ps _ hn hf (hA.below bl)
  by_cases hok : RsOk (dks ps)
  · have h3 : ps.length = 3 := by have := hok.1; rwa [dks_len] at this
    rw [okR_yes hok] at hH
    rw [flushR_yes hok, ← three_map flushD h3]
    have hR := fun W (hW : Below w.heap.size w W) (hb : B1 W w.heap.size 24 (.slice A ps.length cap)) => rof_flush (fun j => flushD ((dks ps).getD j dk0)) w.heap.size W (fun j W' hj hW' => by
      have := flush1 w.heap.size A ps.length cap ps j W' ((hb.below hW').cells.1) (hb.below hW').lt rfl (by omega) (by omega) hf ((hA.below hW).below hW')
      show Calls Try.prog 66 _ W' (DPost (flushD ((dks ps).getD j dk0)) W')
      rw [dks_getD (by omega)]
      exact this)
    obtain ⟨R, hRR⟩ : ∃ R, R = [flushD ((dks ps).getD 0 dk0), flushD ((dks ps).getD 1 dk0), flushD ((dks ps).getD 2 dk0)] := ⟨_, rfl⟩
    simp only [← hRR] at hR ⊢
    clear hRR hf hA hok h3
    go_enter Try.func28, Try.ntmps28
    go_wp2_with (go_at_call 46; refine hH.mono ?_; rintro r w2 ⟨rfl, hb2⟩; refine Hid.out ?_)
    refine Lib.hid ?_
    have c0 := b0.below hb2
    have c1 := b1.below hb2
    have s2 := hb2.size
    have BB := bel_then bl hb2
    have L := hR _ BB c0
    clear hR hH hb2 b0 b1 bl
    obtain ⟨n3, hn3⟩ : ∃ n3 : Nat, n3 = ps.length := ⟨_, rfl⟩
    try rw [← hn3] at s2
    clear hn3
    go_wp2_with (go_at_call 37; refine L.mono ?_; rintro r w3 ⟨qs, A2, c2, rfl, hq, ho, hb3⟩; obtain ⟨y0, f0⟩ := (c1.below hb3).cells)
    have hlt := c1.lt
    exact bodyPost_ret (v := .agg #[.slice A2 qs.length c2]) (by simp [results, Try.f28, go_sem, y0]) rfl ⟨qs, A2, c2, rfl, hq, (ho.set (p := ⟨w.heap.size + 1, 0, none⟩) hlt _).base (by simp at s2 ⊢; omega), (bel_then BB hb3).setCell (p := ⟨w.heap.size + 1, 0, none⟩) (Nat.le_succ _) _⟩
  · rw [okR_no hok] at hH
    rw [flushR_no hok]
    clear hok hf hA
    go_enter Try.func28, Try.ntmps28
    go_wp2_with (go_at_call 46; refine hH.mono ?_; rintro r w2 ⟨rfl, hb2⟩; obtain ⟨y0, f0⟩ := (b1.below hb2).cells)
    have hlt := (b1.below hb2).lt
    exact bodyPost_ret (v := .agg #[.slice none 0 0]) (by simp [results, Try.f28, go_sem, y0]) rfl ⟨[], none, 0, rfl, rfl, ROwn.none _ _, (bel_then bl hb2).setCell (p := ⟨w.heap.size + 1, 0, none⟩) (Nat.le_succ _) _⟩
end Go.Proofs.Ytndckncoipkhaaa
