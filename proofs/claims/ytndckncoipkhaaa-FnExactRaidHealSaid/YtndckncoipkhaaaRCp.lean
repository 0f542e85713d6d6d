/-
  Copies of sets of disks.
-/
import Derived.Test.YtndckncoipkhaaaRNew
import Derived.Test.YtndckncoipkhaaaROk
namespace Go.Proofs.Ytndckncoipkhaaa
open Go.RowKit

theorem copied1 (a : Nat) (A : Option Addr) (n c : Nat) (ps : List RD) (j : Nat) (w : World) (ha : w.cell? ⟨a, 0, none⟩ = some (.slice A n c)) (hal : a < w.heap.size) (hn : n = ps.length) (hj : j < ps.length) (hn2 : ps.length ≤ 1048576) (hf : ∀ p ∈ ps, Bulk p.d) (hA : RAt w A ps) :
    Calls Try.prog 104 #[.int .i64 (j : Int), .pointer (some ⟨a, 0, none⟩)] w (DPost ps[j].d w) := by
  have bl : Below w.heap.size w (w.alloc (.cells #[.slice none 0 0, .slice none 0 0, .bool false] 60)) := bel_new (Below.refl _ _) _
  have b0 := Bx.new w 60 (.slice none 0 0) (.slice none 0 0) (.bool false)
  obtain ⟨b, off, rfl, hlb, z0, z1, z2, hd⟩ := (hA.below bl).cell j hj
  have hfp := hf ps[j] (List.getElem_mem hj)
  have hj2 : j < n := by omega
  have hjn : (j : Int) < (n : Int) := by omega
  have ha2 := (bl.cell (p := ⟨a, 0, none⟩) hal).trans ha
  have hI := copied ps[j].a ps[j].b ps[j].c ps[j].e ps[j].d _ hfp hd
  obtain ⟨P, hP⟩ : ∃ P, P = ps[j] := ⟨_, rfl⟩
  rw [← hP] at z0 z1 z2 hI ⊢
  have hnb : n ≤ 1048576 := by omega
  clear hP hfp hd hA hf hj hn hn2 ha
  go_enter Try.func104, Try.ntmps104
  go_wp2_with (go_at_call 105; refine hI.mono ?_; rintro r w2 ⟨A', c', B', e', rfl, hv, hb2⟩; obtain ⟨⟨y0, y1, y2⟩, f0, f1, f2⟩ := (b0.below hb2).cells)
  have hlt := b0.lt
  exact bodyPost_ret (v := .agg #[.slice A' P.d.cells.length c', .slice B' P.d.waits.length e', .bool P.d.gone]) (by simp [results, Try.f104, go_sem, y0, y1, y2]) rfl ⟨A', c', B', e', rfl, (hv.box hlt _ _ _).base (by simp), bel_box (bel_then bl hb2) (Nat.le_refl _) _ _ _⟩
theorem three {ps : List RD} (h : ps.length = 3) : [(dks ps).getD 0 dk0, (dks ps).getD 1 dk0, (dks ps).getD 2 dk0] = dks ps := by
  match ps, h with
  | [a, b, c], _ => rfl
theorem dks_getD {ps : List RD} {j : Nat} (h : j < ps.length) : (dks ps).getD j dk0 = ps[j].d := by
  simp [dks, List.getD_eq_getElem?_getD, h]
set_option maxRecDepth 100000 in
set_option maxHeartbeats 2000000 in
theorem impl_rcopied (A : Option Addr) (cap : Nat) (ps : List RD) (w : World) (h3 : ps.length = 3) (hf : ∀ p ∈ ps, Bulk p.d) (hA : RAt w A ps) :
    Calls Try.prog 75 #[.agg #[.slice A ps.length cap]] w (RPost (dks ps) w) := by
  have bl : Below w.heap.size w ((w.alloc (.cells #[.slice A ps.length cap] 24)).alloc (.cells #[.slice none 0 0] 24)) := bel_new (bel_new (Below.refl _ _) _) _
  have b0 := (B1.new w 24 (.slice A ps.length cap)).alloc (.cells #[.slice none 0 0] 24)
  have b1 := B1.new (w.alloc (.cells #[.slice A ps.length cap] 24)) 24 (.slice none 0 0)
  rw [World.size_alloc] at b1
  have hR := rof_copied (fun j => (dks ps).getD j dk0) w.heap.size ((w.alloc (.cells #[.slice A ps.length cap] 24)).alloc (.cells #[.slice none 0 0] 24)) (fun j W hj hW => by
    have := copied1 w.heap.size A ps.length cap ps j W ((b0.below hW).cells.1) (b0.below hW).lt rfl (by omega) (by omega) hf ((hA.below bl).below hW)
    show Calls Try.prog 104 _ W (DPost ((dks ps).getD j dk0) W)
    rw [dks_getD (by omega)]
    exact this)
  rw [three h3] at hR
  obtain ⟨R, hRR⟩ : ∃ R, R = dks ps := ⟨_, rfl⟩
  rw [← hRR] at hR ⊢
  rw [h3] at hR bl b0 b1 ⊢
  clear hRR hf hA h3
  go_enter Try.func75, Try.ntmps75
  go_wp2_with (go_at_call 37; refine hR.mono ?_; rintro r w2 ⟨qs, A2, c2, rfl, hq, ho, hb2⟩; obtain ⟨y0, f0⟩ := (b1.below hb2).cells)
  have hlt := b1.lt
  exact bodyPost_ret (v := .agg #[.slice A2 qs.length c2]) (by simp [results, Try.f75, go_sem, y0]) rfl ⟨qs, A2, c2, rfl, hq, (ho.set (p := ⟨w.heap.size + 1, 0, none⟩) hlt _).base (by simp; omega), (bel_then bl hb2).setCell (p := ⟨w.heap.size + 1, 0, none⟩) (Nat.le_succ _) _⟩

set_option maxRecDepth 100000 in
set_option maxHeartbeats 8000000 in
theorem spec_rcopy (A : Option Addr) (cap : Nat) (ps : List RD) (w : World) (hn : ps.length ≤ 1048576) (hf : ∀ p ∈ ps, Bulk p.d) (hA : RAt w A ps) : Calls Try.prog 50 #[.agg #[.slice A ps.length cap]] w (RPost (dks ps) w) := by
  obtain ⟨i0, hi, hz0, hz1, hz2⟩ := info_parts Try.info60
  obtain ⟨W0, hW0⟩ : ∃ W, W = w.alloc (.cells #[.slice A ps.length cap] 24) := ⟨_, rfl⟩
  go_enter Try.func50, Try.ntmps50
  go_wp2
  rw [← hW0]
  have hz : W0.heap.size = w.heap.size + 1 := by rw [hW0, World.size_alloc]
  have o0 := (World.ownsRow_made (e := 60) (base := w.heap.size + 1 + 1) (W0.alloc (.cells #[.slice none 0 0] 24)) (size := 3) #[] 0 (by simp [hz]) (by decide) rfl).alloc (.cells #[.slice (some ⟨w.heap.size + 1 + 1, 0, none⟩) 0 0] 24)
  have b1 := B1.new ((W0.alloc (.cells #[.slice none 0 0] 24)).alloc (.cells #[] 60)) 24 (.slice (some ⟨w.heap.size + 1 + 1, 0, none⟩) 0 0)
  have b0 := ((B1.new W0 24 (.slice none 0 0)).alloc (.cells #[] 60)).alloc (.cells #[.slice (some ⟨w.heap.size + 1 + 1, 0, none⟩) 0 0] 24)
  have bA : B1 W0 w.heap.size 24 (.slice A ps.length cap) := by rw [hW0]; exact B1.new w 24 _
  have ba := ((bA.alloc (.cells #[.slice none 0 0] 24)).alloc (.cells #[] 60)).alloc (.cells #[.slice (some ⟨w.heap.size + 1 + 1, 0, none⟩) 0 0] 24)
  have BB : Below w.heap.size w (((W0.alloc (.cells #[.slice none 0 0] 24)).alloc (.cells #[] 60)).alloc (.cells #[.slice (some ⟨w.heap.size + 1 + 1, 0, none⟩) 0 0] 24)) := by rw [hW0]; exact bel_new (bel_new (bel_new (bel_new (Below.refl _ _) _) _) _) _
  simp only [World.size_alloc, hz] at o0 b1 b0
  have O0 : OutR (((W0.alloc (.cells #[.slice none 0 0] 24)).alloc (.cells #[] 60)).alloc (.cells #[.slice (some ⟨w.heap.size + 1 + 1, 0, none⟩) 0 0] 24)) (w.heap.size + 1 + 1 + 1) (w.heap.size + 1 + 1) (w.heap.size + 1 + 1 + 1 + 1) (w.heap.size + 1 + 1) 0 [] := ⟨b1, o0, RIn.nil _ _ _ _, by omega⟩
  have hs0 : w.heap.size + 1 + 1 + 1 + 1 ≤ (((W0.alloc (.cells #[.slice none 0 0] 24)).alloc (.cells #[] 60)).alloc (.cells #[.slice (some ⟨w.heap.size + 1 + 1, 0, none⟩) 0 0] 24)).heap.size := by simp [hz]
  try simp only [World.size_alloc, hz]
  clear o0 b1 hz hW0 bA
  go_loopw [4] (fun i wr => ∃ (k : Nat) (qs : List RD) (g c : Nat), k ≤ ps.length ∧ i = .int .i64 k ∧ qs.length = k ∧ dks qs = (dks ps).take k ∧ OutR wr (w.heap.size + 1 + 1 + 1) (w.heap.size + 1 + 1) (w.heap.size + 1 + 1 + 1 + 1) g c qs ∧ B1 wr (w.heap.size + 1) 24 (.slice none 0 0) ∧ B1 wr w.heap.size 24 (.slice A ps.length cap) ∧ Below w.heap.size w wr ∧ w.heap.size + 1 + 1 + 1 + 1 ≤ wr.heap.size) (fun i _ => ps.length - (intOf i).toNat)
  case atStart => exact ⟨0, [], w.heap.size + 1 + 1, 0, Nat.zero_le _, rfl, rfl, rfl, O0, b0, ba, BB, hs0⟩
  case round =>
    clear O0 b0 BB hs0 ba
    obtain ⟨k, qs, g, c, hk, rfl, hql, hqd, hO, b0, ba, BB, hs0⟩ := hrel
    have HQ := Lib.hid hqd
    have HL := Lib.hid hql
    clear hqd hql
    obtain ⟨a0, _⟩ := ba.cells
    by_cases hlt : k < ps.length
    · obtain ⟨bb, off, rfl, hlb, z0, z1, z2, hd⟩ := (hA.below BB).cell k hlt
      have hfp := hf ps[k] (List.getElem_mem hlt)
      have hmore := dks_more hlt
      have hC := spec_copy ps[k].a ps[k].b ps[k].c ps[k].e ps[k].d wr.drew hfp hd
      obtain ⟨P, hP⟩ : ∃ P, P = ps[k] := ⟨_, rfl⟩
      rw [← hP] at z0 z1 z2 hC hmore
      have HMO := Lib.hid hmore
      have hbx := hO.box
      rw [HL.out] at hbx
      obtain ⟨y0, f0⟩ := hbx.cells
      have hrow := hO.row
      rw [HL.out] at hrow
      have hgl : g < wr.heap.size := (hrow.lt g rfl).2
      have hgb : w.heap.size + 1 + 1 ≤ g := (hrow.lt g rfl).1
      have hxl := hbx.lt
      have HO := Lib.hid hO
      have hge : g ≠ w.heap.size + 1 + 1 + 1 := hO.ne
      clear hO hmore hfp hd hP
      go_wp2_with fail
      go_region_law (first
          | (go_simp; go_at_call 90; refine hC.mono ?_; rintro r w2 ⟨A', c', B', e', rfl, hv, hb2⟩; have hbx2 := (B1.below (W := wr.drew) hbx hb2); obtain ⟨y0, f0⟩ := hbx2.cells; obtain ⟨y0a, f0a⟩ := (hbx2.alloc (.cells #[.slice A' P.d.cells.length c', .slice B' P.d.waits.length e', .bool P.d.gone] 60)).cells; have hrow2 := own_bel (w := wr.drew) hrow hb2; have hz2s : wr.heap.size ≤ w2.heap.size := hb2.size)
          | (refine step_append_lies _ rfl (.tmp 15) (.tmp 22) 22 rfl (w.heap.size + 1 + 1) 60 i0 (.agg #[.slice none 0 0, .slice none 0 0, .bool false]) 3 56 Try.underlying22 hi hz0 hz1 hz2 rfl (by decide) (.slice (some ⟨g, 0, none⟩) k c) k (trios qs) rfl (hrow2.alloc _) ⟨w2.heap.size, 0, none⟩ 1 1 [.slice A' P.d.cells.length c', .slice B' P.d.waits.length e', .bool P.d.gone] rfl rfl (World.news_of_block (heap_alloc_new w2 _)) (trio_one _ _ _ _ _ _ _) (by decide) (by unfold maxLen; omega) (by omega) (by rw [World.size_alloc]; omega) _ rfl ?_
             intro g2 c2 w4 own4 gr4 hg4 hl4
             have y4 := (gr4.cell_far ⟨w.heap.size + 1 + 1 + 1, 0, none⟩ (by show w.heap.size + 1 + 1 + 1 < _; rw [World.size_alloc]; omega) (by simp [Value.ownBlock]; omega)).trans ((hbx2.alloc _).cells.1)
             have f4 := (gr4.frozen_far ⟨w.heap.size + 1 + 1 + 1, 0, none⟩ (by show w.heap.size + 1 + 1 + 1 < _; rw [World.size_alloc]; omega) (by simp [Value.ownBlock]; omega)).trans ((hbx2.alloc _).cells.2)))
      all_goals
        have OM := HO.out.more (by omega) hs0 (w2 := w2) hv (bel_then (Below.refl wr.heap.size wr).drew hb2) (by rw [HL.out]; exact own4) gr4 hg4
        have b4 : B1 w4 (w.heap.size + 1) 24 (.slice none 0 0) := (gr4.block (w.heap.size + 1) (by have := b0.lt; rw [World.size_alloc]; omega) (by simp [Value.ownBlock]; omega)).trans ((B1.below (W := wr.drew) b0 hb2).alloc _)
        have b5 : B1 w4 w.heap.size 24 (.slice (some ⟨bb, off, none⟩) ps.length cap) := (gr4.block w.heap.size (by have := b0.lt; rw [World.size_alloc]; omega) (by simp [Value.ownBlock]; omega)).trans ((B1.below (W := wr.drew) ba hb2).alloc _)
        have B4 := (((bel_then BB.drew hb2).alloc (bel_then BB.drew hb2).size (.cells #[.slice A' P.d.cells.length c', .slice B' P.d.waits.length e', .bool P.d.gone] 60)).grown gr4 (by have := (bel_then BB.drew hb2).size; rw [World.size_alloc]; omega) (fun k e => by simp only [Value.ownBlock, Option.some.injEq] at e; omega))
        have HD : Hid (dks (qs ++ [⟨A', c', B', e', P.d, wr.heap.size, w2.heap.size⟩]) = (dks ps).take (k + 1)) := Lib.hid (by
          have : dks (qs ++ [⟨A', c', B', e', P.d, wr.heap.size, w2.heap.size⟩]) = dks qs ++ [P.d] := by simp [dks]
          rw [this, HQ.out, HMO.out])
        have s4 : wr.heap.size ≤ w4.heap.size := by have := gr4.size; rw [World.size_alloc] at this; omega
        rw [HL.out] at OM
        have HOM := Lib.hid OM
        clear OM
        go_wp2_with fail
        go_roundw
        case rel => exact ⟨k + 1, _, g2, c2, by omega, by go_num, by simp [HL.out], HD.out, HOM.out, b4.set (p := ⟨w.heap.size + 1 + 1 + 1, 0, none⟩) (by show w.heap.size + 1 ≠ w.heap.size + 1 + 1 + 1; omega) _, b5.set (p := ⟨w.heap.size + 1 + 1 + 1, 0, none⟩) (by show w.heap.size ≠ w.heap.size + 1 + 1 + 1; omega) _, (B4.setCell (p := ⟨w.heap.size + 1 + 1 + 1, 0, none⟩) (by show w.heap.size ≤ w.heap.size + 1 + 1 + 1; omega) _), by simp [World.setCell]; omega⟩
        case measure => simp [intOf]; omega
    · have hke : k = ps.length := by omega
      subst hke
      obtain ⟨y0, f0⟩ := hO.box.cells
      obtain ⟨z0, zf⟩ := b0.cells
      have HO := Lib.hid (hO.own (b := w.heap.size + 1 + 1) (Nat.le_refl _) (by omega))
      clear hO
      go_wp2_with fail
      refine bodyPost_ret (v := .agg #[.slice (some ⟨g, 0, none⟩) qs.length c]) (by simp [results, Try.f50, go_sem, z0]) rfl ⟨qs, some ⟨g, 0, none⟩, c, rfl, by rw [HQ.out, List.take_of_length_le (by rw [dks_len]; exact Nat.le_refl _)], (HO.out.set (p := ⟨w.heap.size + 1, 0, none⟩) (Nat.lt_succ_self _) _).base (by omega), BB.setCell (p := ⟨w.heap.size + 1, 0, none⟩) (by show w.heap.size ≤ w.heap.size + 1; omega) _⟩
end Go.Proofs.Ytndckncoipkhaaa
