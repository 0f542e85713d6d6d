/-
  New sets of disks.
-/
import Derived.Test.YtndckncoipkhaaaROf
import Derived.Deep.RegionLaw
namespace Go.Proofs.Ytndckncoipkhaaa
open Go.RowKit

theorem new1 (j : Nat) (w : World) : Calls Try.prog 38 #[.int .i64 (j : Int)] w (DPost newD w) := by
  have bl : Below w.heap.size w (w.alloc (.cells #[.slice none 0 0, .slice none 0 0, .bool false] 60)) := bel_new (Below.refl _ _) _
  have b0 := Bx.new w 60 (.slice none 0 0) (.slice none 0 0) (.bool false)
  have hN := impl_new (w.alloc (.cells #[.slice none 0 0, .slice none 0 0, .bool false] 60))
  obtain ⟨D, hD⟩ : ∃ D, D = newD := ⟨_, rfl⟩
  rw [← hD] at hN ⊢
  clear hD
  go_enter Try.func38, Try.ntmps38
  go_wp2_with (go_at_call 39; refine hN.mono ?_; rintro r w2 ⟨A, c, B, e, rfl, hv, hb2⟩; obtain ⟨⟨y0, y1, y2⟩, f0, f1, f2⟩ := (b0.below hb2).cells)
  have hlt := b0.lt
  exact bodyPost_ret (v := .agg #[.slice A D.cells.length c, .slice B D.waits.length e, .bool D.gone]) (by simp [results, Try.f38, go_sem, y0, y1, y2]) rfl ⟨A, c, B, e, rfl, (hv.box hlt _ _ _).base (by simp), bel_box (bel_then bl hb2) (Nat.le_refl _) _ _ _⟩
set_option maxRecDepth 100000 in
set_option maxHeartbeats 1000000 in
theorem impl_rnew (w : World) : Calls Try.prog 12 #[] w (RPost [newD, newD, newD] w) := by
  have bl : Below w.heap.size w (w.alloc (.cells #[.slice none 0 0] 24)) := bel_new (Below.refl _ _) _
  have b0 := B1.new w 24 (.slice none 0 0)
  have hN := rof_new (fun _ => newD) (w.alloc (.cells #[.slice none 0 0] 24)) (fun j W _ _ => new1 j W)
  obtain ⟨R, hR⟩ : ∃ R, R = [newD, newD, newD] := ⟨_, rfl⟩
  simp only [← hR] at hN ⊢
  clear hR
  go_enter Try.func12, Try.ntmps12
  go_wp2_with (go_at_call 37; refine hN.mono ?_; rintro r w2 ⟨qs, A, c, rfl, hq, ho, hb2⟩; obtain ⟨y0, f0⟩ := (b0.below hb2).cells)
  have hlt := b0.lt
  exact bodyPost_ret (v := .agg #[.slice A qs.length c]) (by simp [results, Try.f12, go_sem, y0]) rfl ⟨qs, A, c, rfl, hq, (ho.set (p := ⟨w.heap.size, 0, none⟩) hlt _).base (by simp), (bel_then bl hb2).setCell (p := ⟨w.heap.size, 0, none⟩) (Nat.le_refl _) _⟩

/-- A row of disks that is being appended to, and the box that leads to it. -/
structure OutR (W : World) (h1 rb base g c : Nat) (qs : List RD) : Prop where
  box : B1 W h1 24 (.slice (some ⟨g, 0, none⟩) qs.length c)
  row : W.ownsRow rb 60 3 (.slice (some ⟨g, 0, none⟩) qs.length c) qs.length (trios qs)
  ins : RIn W base W.heap.size (some g) qs
  ne : g ≠ h1
theorem OutR.below {W W' : World} {h1 rb base g c : Nat} {qs : List RD} (h : OutR W h1 rb base g c qs) (hb : Below W.heap.size W W') : OutR W' h1 rb base g c qs :=
  ⟨h.box.below hb, own_bel h.row hb, (h.ins.below hb).top hb.size, h.ne⟩
/-- One disk more. -/
theorem OutR.more {W w2 W4 : World} {h1 rb base g c g2 c2 : Nat} {qs : List RD} {A B : Option Addr} {c' e' : Nat} {d : Dk} (h : OutR W h1 rb base g c qs) (hh : h1 < base) (hbs : base ≤ W.heap.size)
    (hv : DkOwn w2 W.heap.size (.agg #[.slice A d.cells.length c', .slice B d.waits.length e', .bool d.gone]) d) (hb : Below W.heap.size W w2) {o : Obj}
    (hr : W4.ownsRow rb 60 3 (.slice (some ⟨g2, 0, none⟩) (qs.length + 1) c2) (qs.length + 1) (trios qs ++ [.slice A d.cells.length c', .slice B d.waits.length e', .bool d.gone])) (hg : (w2.alloc o).grownBy W4 (some g)) (hg2 : some g = some g2 ∨ g2 = (w2.alloc o).heap.size) :
    OutR (W4.setCell ⟨h1, 0, none⟩ (.slice (some ⟨g2, 0, none⟩) (qs.length + 1) c2)) h1 rb base g2 c2 (qs ++ [⟨A, c', B, e', d, W.heap.size, w2.heap.size⟩]) := by
  have hbx := h.box
  have hgl : g < W.heap.size := (h.row.lt g rfl).2
  have hsz := hb.size
  have hlt1 := hbx.lt
  have b4 : B1 W4 h1 24 (.slice (some ⟨g, 0, none⟩) qs.length c) := (hg.block h1 (by rw [World.size_alloc]; omega) (by simp; exact fun e => h.ne e.symm)).trans ((hbx.below hb).alloc o)
  have hne2 : g2 ≠ h1 := by
    rcases hg2 with e | e
    · injection e with e
      rw [← e]; exact h.ne
    · rw [e, World.size_alloc]; omega
  obtain ⟨q, hq⟩ : ∃ q : RD, q = ⟨A, c', B, e', d, W.heap.size, w2.heap.size⟩ := ⟨_, rfl⟩
  have i2 : RIn w2 base w2.heap.size (some g) (qs ++ [q]) := (h.ins.below hb).snoc (by rw [hq]; exact hv.in_) (by rw [hq]; exact hbs) (by rw [hq]; exact Nat.le_refl _) (by rw [hq]; exact hsz) (by rw [hq]; exact Nat.le_refl _) (fun k e => by cases e; rw [hq]; show ¬ (W.heap.size ≤ g ∧ _); omega)
  have i4 := ((i2.below (bel_new (Below.refl _ _) o)).row hg).move (g' := some g2) (by
    rcases hg2 with e | e
    · exact .inl e.symm
    · exact .inr (fun k hk => by cases hk; rw [e, World.size_alloc]; omega))
  have h4 : w2.heap.size ≤ W4.heap.size := by have := hg.size; rw [World.size_alloc] at this; omega
  have hl : (qs ++ [q]).length = qs.length + 1 := by simp
  have ht : trios (qs ++ [q]) = trios qs ++ [.slice A d.cells.length c', .slice B d.waits.length e', .bool d.gone] := by rw [trios_app, hq]; rfl
  rw [← hq]
  refine ⟨?_, ?_, ?_, hne2⟩
  · rw [hl]
    have hb4 : W4.heap[h1]? = some (.cells #[.slice (some ⟨g, 0, none⟩) qs.length c] 24 (0, 0)) := b4
    show (W4.setCell ⟨h1, 0, none⟩ _).heap[h1]? = _
    simp [World.setCell, Array.getElem?_modify, hb4]
  · rw [hl, ht]
    exact hr.kept (grown_set W4 ⟨h1, 0, none⟩ _) (.inr (by simpa [Value.ownBlock] using hne2))
  · exact ((i4.top h4).onlyOut (lo := h1) (hi := h1 + 1) (Only.of_grown (grown_set W4 ⟨h1, 0, none⟩ _) (fun k e => by cases e; exact ⟨Nat.le_refl _, Nat.lt_succ_self _⟩)) (by omega)).top (by simp [World.setCell])
theorem OutR.own {W : World} {h1 rb base g c b : Nat} {qs : List RD} (h : OutR W h1 rb base g c qs) (h2 : b ≤ rb) (h3 : b ≤ base) : ROwn W b (.slice (some ⟨g, 0, none⟩) qs.length c) qs := ⟨own_base h.row h2, h.ins.base h3⟩
theorem trio_one (a : Option Addr) (n c : Nat) (b : Option Addr) (m e : Nat) (x : Bool) : ∀ u ∈ [Value.slice a n c, .slice b m e, .bool x], u.oneCell' = true := fun u hu => by
  simp only [List.mem_cons, List.not_mem_nil, or_false] at hu
  rcases hu with rfl | rfl | rfl <;> rfl

set_option maxRecDepth 100000 in
set_option maxHeartbeats 4000000 in
theorem spec_rnew (w : World) : Calls Try.prog 11 #[] w (RPost [newD, newD, newD] w) := by
  obtain ⟨i0, hi, hz0, hz1, hz2⟩ := info_parts Try.info60
  have hN := spec_new
  obtain ⟨D, hD⟩ : ∃ D, D = newD := ⟨_, rfl⟩
  rw [← hD] at hN ⊢
  clear hD
  go_enter Try.func11, Try.ntmps11
  go_wp2
  have o0 := (World.ownsRow_made (e := 60) (base := w.heap.size + 1) (w.alloc (.cells #[.slice none 0 0] 24)) (size := 3) #[] 0 (by simp) (by decide) rfl).alloc (.cells #[.slice (some ⟨w.heap.size + 1, 0, none⟩) 0 0] 24)
  have b1 := B1.new ((w.alloc (.cells #[.slice none 0 0] 24)).alloc (.cells #[] 60)) 24 (.slice (some ⟨w.heap.size + 1, 0, none⟩) 0 0)
  have b0 := ((B1.new w 24 (.slice none 0 0)).alloc (.cells #[] 60)).alloc (.cells #[.slice (some ⟨w.heap.size + 1, 0, none⟩) 0 0] 24)
  have BB : Below w.heap.size w (((w.alloc (.cells #[.slice none 0 0] 24)).alloc (.cells #[] 60)).alloc (.cells #[.slice (some ⟨w.heap.size + 1, 0, none⟩) 0 0] 24)) := bel_new (bel_new (bel_new (Below.refl _ _) _) _) _
  simp only [World.size_alloc] at o0 b1
  have O0 : OutR (((w.alloc (.cells #[.slice none 0 0] 24)).alloc (.cells #[] 60)).alloc (.cells #[.slice (some ⟨w.heap.size + 1, 0, none⟩) 0 0] 24)) (w.heap.size + 1 + 1) (w.heap.size + 1) (w.heap.size + 1 + 1 + 1) (w.heap.size + 1) 0 [] := ⟨b1, o0, RIn.nil _ _ _ _, by omega⟩
  have hs0 : w.heap.size + 1 + 1 + 1 ≤ (((w.alloc (.cells #[.slice none 0 0] 24)).alloc (.cells #[] 60)).alloc (.cells #[.slice (some ⟨w.heap.size + 1, 0, none⟩) 0 0] 24)).heap.size := by simp
  clear o0 b1
  go_loopw [2] (fun i wr => ∃ (k : Nat) (qs : List RD) (g c : Nat), k ≤ 3 ∧ i = .int .i64 k ∧ qs.length = k ∧ dks qs = [D, D, D].take k ∧ OutR wr (w.heap.size + 1 + 1) (w.heap.size + 1) (w.heap.size + 1 + 1 + 1) g c qs ∧ B1 wr w.heap.size 24 (.slice none 0 0) ∧ Below w.heap.size w wr ∧ w.heap.size + 1 + 1 + 1 ≤ wr.heap.size) (fun i _ => 3 - (intOf i).toNat)
  case atStart => exact ⟨0, [], w.heap.size + 1, 0, by omega, rfl, rfl, rfl, O0, b0, BB, hs0⟩
  case round =>
    clear O0 b0 BB hs0
    obtain ⟨k, qs, g, c, hk, rfl, hql, hqd, hO, b0, BB, hs0⟩ := hrel
    have HQ := Lib.hid hqd
    have HL := Lib.hid hql
    clear hqd hql
    by_cases hlt : k < 3
    · have hlt' : (k : Int) < 3 := by omega
      have hbx := hO.box
      rw [HL.out] at hbx
      obtain ⟨y0, f0⟩ := hbx.cells
      have hrow := hO.row
      rw [HL.out] at hrow
      have hgl : g < wr.heap.size := (hrow.lt g rfl).2
      have hgb : w.heap.size + 1 ≤ g := (hrow.lt g rfl).1
      have hxl := hbx.lt
      have HO := Lib.hid hO
      have hge : g ≠ w.heap.size + 1 + 1 := hO.ne
      clear hO
      go_wp2_with fail
      go_region_law (first
          | (go_simp; go_at_call 36; refine (hN _).mono ?_; rintro r w2 ⟨A', c', B', e', rfl, hv, hb2⟩; have hbx2 := (B1.below (W := wr.drew) hbx hb2); obtain ⟨y0, f0⟩ := hbx2.cells; obtain ⟨y0a, f0a⟩ := (hbx2.alloc (.cells #[.slice A' D.cells.length c', .slice B' D.waits.length e', .bool D.gone] 60)).cells; have hrow2 := own_bel (w := wr.drew) hrow hb2; have hz2s : wr.heap.size ≤ w2.heap.size := hb2.size)
          | (refine step_append_lies _ rfl (.tmp 10) (.tmp 12) 22 rfl (w.heap.size + 1) 60 i0 (.agg #[.slice none 0 0, .slice none 0 0, .bool false]) 3 56 Try.underlying22 hi hz0 hz1 hz2 rfl (by decide) (.slice (some ⟨g, 0, none⟩) k c) k (trios qs) rfl (hrow2.alloc _) ⟨w2.heap.size, 0, none⟩ 1 1 [.slice A' D.cells.length c', .slice B' D.waits.length e', .bool D.gone] rfl rfl (World.news_of_block (heap_alloc_new w2 _)) (trio_one _ _ _ _ _ _ _) (by decide) (by unfold maxLen; omega) (by omega) (by rw [World.size_alloc]; omega) _ rfl ?_
             intro g2 c2 w4 own4 gr4 hg4 hl4
             have y4 := (gr4.cell_far ⟨w.heap.size + 1 + 1, 0, none⟩ (by show w.heap.size + 1 + 1 < _; rw [World.size_alloc]; omega) (by simp [Value.ownBlock]; omega)).trans ((hbx2.alloc _).cells.1)
             have f4 := (gr4.frozen_far ⟨w.heap.size + 1 + 1, 0, none⟩ (by show w.heap.size + 1 + 1 < _; rw [World.size_alloc]; omega) (by simp [Value.ownBlock]; omega)).trans ((hbx2.alloc _).cells.2)))
      all_goals
        have OM := HO.out.more (by omega) hs0 (w2 := w2) hv (bel_then (Below.refl wr.heap.size wr).drew hb2) (by rw [HL.out]; exact own4) gr4 hg4
        have b4 : B1 w4 w.heap.size 24 (.slice none 0 0) := (gr4.block w.heap.size (by have := b0.lt; rw [World.size_alloc]; omega) (by simp [Value.ownBlock]; omega)).trans ((B1.below (W := wr.drew) b0 hb2).alloc _)
        have B4 := (((bel_then BB.drew hb2).alloc (bel_then BB.drew hb2).size (.cells #[.slice A' D.cells.length c', .slice B' D.waits.length e', .bool D.gone] 60)).grown gr4 (by have := (bel_then BB.drew hb2).size; rw [World.size_alloc]; omega) (fun k e => by simp only [Value.ownBlock, Option.some.injEq] at e; omega))
        have HD : Hid (dks (qs ++ [⟨A', c', B', e', D, wr.heap.size, w2.heap.size⟩]) = [D, D, D].take (k + 1)) := Lib.hid (by
          have : dks (qs ++ [⟨A', c', B', e', D, wr.heap.size, w2.heap.size⟩]) = dks qs ++ [D] := by simp [dks]
          rw [this, HQ.out]
          rcases (show k = 0 ∨ k = 1 ∨ k = 2 by omega) with rfl | rfl | rfl <;> rfl)
        have s4 : wr.heap.size ≤ w4.heap.size := by have := gr4.size; rw [World.size_alloc] at this; omega
        rw [HL.out] at OM
        have HOM := Lib.hid OM
        clear OM
        go_wp2_with fail
        go_roundw
        case rel => exact ⟨k + 1, _, g2, c2, by omega, by go_num, by simp [HL.out], HD.out, HOM.out, b4.set (p := ⟨w.heap.size + 1 + 1, 0, none⟩) (by show w.heap.size ≠ w.heap.size + 1 + 1; omega) _, (B4.setCell (p := ⟨w.heap.size + 1 + 1, 0, none⟩) (by show w.heap.size ≤ w.heap.size + 1 + 1; omega) _), by simp [World.setCell]; omega⟩
        case measure => simp [intOf]; omega
    · have hke : k = 3 := by omega
      subst hke
      obtain ⟨y0, f0⟩ := hO.box.cells
      obtain ⟨z0, zf⟩ := b0.cells
      have HO := Lib.hid (hO.own (b := w.heap.size + 1) (Nat.le_refl _) (by omega))
      clear hO
      go_wp2_with fail
      refine bodyPost_ret (v := .agg #[.slice (some ⟨g, 0, none⟩) qs.length c]) (by simp [results, Try.f11, go_sem, z0]) rfl ⟨qs, some ⟨g, 0, none⟩, c, rfl, by rw [HQ.out]; rfl, (HO.out.set (p := ⟨w.heap.size, 0, none⟩) (Nat.lt_succ_self _) _).base (Nat.le_succ _), BB.setCell (p := ⟨w.heap.size, 0, none⟩) (Nat.le_refl _) _⟩
end Go.Proofs.Ytndckncoipkhaaa
