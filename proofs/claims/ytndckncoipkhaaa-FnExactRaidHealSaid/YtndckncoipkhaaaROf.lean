/-
  Three disks, each of which a function tells.
-/
import Derived.Test.YtndckncoipkhaaaKR
import Derived.Test.YtndckncoipkhaaaKC
namespace Go.Proofs.Ytndckncoipkhaaa
open Go.RowKit

theorem B1.set {W : World} {g : Nat} {t : TypeId} {x : Value} (h : B1 W g t x) {p : Addr} (hp : g ≠ p.block) (u : Value) : B1 (W.setCell p u) g t x := (Below.heap_setCell W p u g hp).trans h
theorem B1.alloc {W : World} {g : Nat} {t : TypeId} {x : Value} (h : B1 W g t x) (o : Obj) : B1 (W.alloc o) g t x := (Below.heap_alloc W o g h.lt).trans h

set_option maxRecDepth 100000 in
set_option maxHeartbeats 4000000 in
theorem rof_new (ds : Nat → Dk) (w : World) (hF : ∀ (j : Nat) (W : World), j < 3 → Below w.heap.size w W → Calls Try.prog 38 #[.int .i64 (j : Int)] W (DPost (ds j) W)) :
    Calls Try.prog 37 #[.func (.func 38) #[] #[]] w (RPost [ds 0, ds 1, ds 2] w) := by
  obtain ⟨i0, hi, hz0, hz1, hz2⟩ := info_parts Try.info60
  have hmb : Below w.heap.size w (w.alloc (.cells #[.slice none 0 0] 24)) := bel_new (Below.refl _ _) _
  have b0 := B1.new w 24 (.slice none 0 0)
  go_enter Try.func37, Try.ntmps37
  go_wp2_with (refine wpList_make_full _ rfl _ _ 22 rfl (w.heap.size + 1) 60 i0 (.agg #[.slice none 0 0, .slice none 0 0, .bool false]) 3 Try.underlying22 hi hz0 hz1 _ _ _ _ 3 rfl rfl rfl rfl (by rw [hz2]; decide) (by decide) (by simp) ?_; intro w1 hown hgrow; rw [made_disks] at hown; refine Hid.out ?_)
  refine Lib.hid ?_
  have hb1 : Below w.heap.size w w1 := hmb.grown hgrow hmb.size (fun k e => by cases e)
  have b1 := (hgrow.block w.heap.size b0.lt (by simp)).trans b0
  obtain ⟨g, hg⟩ : ∃ g, g = w.heap.size + 1 := ⟨_, rfl⟩
  simp only [World.size_alloc] at hown
  rw [← hg] at hown
  have hgl : g < w1.heap.size := (hown.lt g rfl).2
  have hgw : w.heap.size < g := by omega
  have HG := Lib.hid hg
  clear hgrow hmb b0 hg
  go_wp2_with fail
  simp only [World.size_alloc, ← HG.out]
  go_loopw [8] (fun i wr => ∃ (k : Nat) (qs : List RD), k ≤ 3 ∧ i = .int .i64 k ∧ qs.length = k ∧ dks qs = [ds 0, ds 1, ds 2].take k ∧ wr.ownsRow g 60 3 (.slice (some ⟨g, 0, none⟩) 3 3) 3 (trios qs ++ dzeros (3 - k)) ∧ RIn wr g wr.heap.size (some g) qs ∧ B1 wr w.heap.size 24 (.slice none 0 0) ∧ Below w.heap.size w wr) (fun i _ => 3 - (intOf i).toNat)
  case atStart => exact ⟨0, [], by omega, rfl, rfl, rfl, hown, RIn.nil _ _ _ _, b1, hb1⟩
  case round =>
    obtain ⟨k, qs, hk, rfl, hql, hqd, ho, hR, b1, hb⟩ := hrel
    clear hown hb1 hgl
    have HQ := Lib.hid hqd
    have HL := Lib.hid hql
    clear hqd hql
    by_cases hlt : k < 3
    · have hlt' : (k : Int) < 3 := by omega
      obtain ⟨m, hm⟩ : ∃ m, 3 - k = m + 1 := ⟨3 - k - 1, by omega⟩
      have hm1 : 3 - (k + 1) = m := by omega
      rw [hm, dzeros_succ, ← List.append_assoc] at ho
      have hT := hF k wr hlt hb
      have hlt0 := (ho.lt g rfl).2
      have HM := Lib.hid hm1
      have hgw2 : g < wr.heap.size := hlt0
      clear hm hm1
      go_wp2_with (go_at_call 38; refine hT.mono ?_; rintro r w2 ⟨A', c', B', e', rfl, hv, hb2⟩; refine Hid.out ?_)
      refine Lib.hid ?_
      obtain ⟨q, hq⟩ : ∃ q : RD, q = ⟨A', c', B', e', ds k, wr.heap.size, w2.heap.size⟩ := ⟨_, rfl⟩
      have hqin : DkIn w2 q.l q.h q.val q.d := by rw [hq]; exact hv.in_
      have ho2 := own_bel ho hb2
      obtain ⟨y0, y1, y2⟩ := own_cells3 ho2 HL.out hlt
      have f0 := ho2.frozenAt (k * 3)
      have f1 := ho2.frozenAt (k * 3 + 1)
      have f2 := ho2.frozenAt (k * 3 + 2)
      have hset := own_set3 ho2 HL.out q
      have hR2 := (hR.below hb2).snoc (p := q) (top' := w2.heap.size) hqin (by rw [hq]; show g ≤ wr.heap.size; omega) (by rw [hq]; exact Nat.le_refl _) (by rw [hq]; exact hb2.size) (by rw [hq]; exact Nat.le_refl _) (fun k e => by cases e; rw [hq]; show ¬ (wr.heap.size ≤ g ∧ _); omega)
      have hR3 := ((hR2.row (grown_set w2 ⟨g, k * 3, none⟩ (.slice q.a q.d.cells.length q.c))).row (grown_set _ ⟨g, k * 3 + 1, none⟩ (.slice q.b q.d.waits.length q.e))).row (grown_set _ ⟨g, k * 3 + 2, none⟩ (.bool q.d.gone))
      have BB := (((bel_then hb hb2).setCell (p := ⟨g, k * 3, none⟩) (Nat.le_of_lt hgw) (.slice q.a q.d.cells.length q.c)).setCell (p := ⟨g, k * 3 + 1, none⟩) (Nat.le_of_lt hgw) (.slice q.b q.d.waits.length q.e)).setCell (p := ⟨g, k * 3 + 2, none⟩) (Nat.le_of_lt hgw) (.bool q.d.gone)
      have b3 := (((b1.below hb2).set (p := ⟨g, k * 3, none⟩) (by show w.heap.size ≠ g; omega) (.slice q.a q.d.cells.length q.c)).set (p := ⟨g, k * 3 + 1, none⟩) (by show w.heap.size ≠ g; omega) (.slice q.b q.d.waits.length q.e)).set (p := ⟨g, k * 3 + 2, none⟩) (by show w.heap.size ≠ g; omega) (.bool q.d.gone)
      have HD : Hid (dks (qs ++ [q]) = [ds 0, ds 1, ds 2].take (k + 1)) := Lib.hid (by
        have : dks (qs ++ [q]) = dks qs ++ [ds k] := by rw [hq]; simp [dks]
        rw [this, HQ.out]
        rcases (show k = 0 ∨ k = 1 ∨ k = 2 by omega) with rfl | rfl | rfl <;> rfl)
      have HLn : Hid ((qs ++ [q]).length = k + 1) := Lib.hid (by simp [HL.out])
      have e1 : q.a = A' ∧ q.c = c' ∧ q.b = B' ∧ q.e = e' ∧ q.d = ds k := by rw [hq]; exact ⟨rfl, rfl, rfl, rfl, rfl⟩
      simp only [e1.1, e1.2.1, e1.2.2.1, e1.2.2.2.1, e1.2.2.2.2] at hset hR3 BB b3
      have HS := Lib.hid hset
      have HR3 := Lib.hid hR3
      have HBB := Lib.hid BB
      have HB3 := Lib.hid b3
      clear hT hb2 hv hq hqin ho ho2 hset hR2 hR3 BB e1 hR b1 b3
      go_wp2_with fail
      go_roundw
      case rel => exact ⟨k + 1, qs ++ [q], by omega, by go_num, HLn.out, HD.out, by rw [HM.out]; exact HS.out, by simpa using HR3.out, HB3.out, HBB.out⟩
      case measure => simp [intOf]; omega
    · have hke : k = 3 := by omega
      subst hke
      rw [Nat.sub_self, show dzeros 0 = [] from rfl, List.append_nil] at ho
      have HO := Lib.hid ho
      obtain ⟨z0, zf⟩ := b1.cells
      clear ho hF
      go_wp2_with fail
      refine bodyPost_ret (v := .agg #[.slice (some ⟨g, 0, none⟩) 3 3]) (by simp [results, Try.f37, go_sem, z0]) rfl ⟨qs, some ⟨g, 0, none⟩, 3, by rw [HL.out], by rw [HQ.out]; rfl, ?_, hb.setCell (p := ⟨w.heap.size, 0, none⟩) (Nat.le_refl _) _⟩
      have hro : ROwn wr g (.slice (some ⟨g, 0, none⟩) 3 3) qs := ⟨by rw [HL.out]; exact HO.out, hR⟩
      rw [HL.out]
      exact (hro.set (p := ⟨w.heap.size, 0, none⟩) hgw _).base (Nat.le_of_lt hgw)

set_option maxRecDepth 100000 in
set_option maxHeartbeats 4000000 in
theorem rof_flush (ds : Nat → Dk) (a : Nat) (w : World) (hF : ∀ (j : Nat) (W : World), j < 3 → Below w.heap.size w W → Calls Try.prog 66 #[.int .i64 (j : Int), .pointer (some ⟨a, 0, none⟩)] W (DPost (ds j) W)) :
    Calls Try.prog 37 #[.func (.func 66) #[] #[.pointer (some ⟨a, 0, none⟩)]] w (RPost [ds 0, ds 1, ds 2] w) := by
  obtain ⟨i0, hi, hz0, hz1, hz2⟩ := info_parts Try.info60
  have hmb : Below w.heap.size w (w.alloc (.cells #[.slice none 0 0] 24)) := bel_new (Below.refl _ _) _
  have b0 := B1.new w 24 (.slice none 0 0)
  go_enter Try.func37, Try.ntmps37
  go_wp2_with (refine wpList_make_full _ rfl _ _ 22 rfl (w.heap.size + 1) 60 i0 (.agg #[.slice none 0 0, .slice none 0 0, .bool false]) 3 Try.underlying22 hi hz0 hz1 _ _ _ _ 3 rfl rfl rfl rfl (by rw [hz2]; decide) (by decide) (by simp) ?_; intro w1 hown hgrow; rw [made_disks] at hown; refine Hid.out ?_)
  refine Lib.hid ?_
  have hb1 : Below w.heap.size w w1 := hmb.grown hgrow hmb.size (fun k e => by cases e)
  have b1 := (hgrow.block w.heap.size b0.lt (by simp)).trans b0
  obtain ⟨g, hg⟩ : ∃ g, g = w.heap.size + 1 := ⟨_, rfl⟩
  simp only [World.size_alloc] at hown
  rw [← hg] at hown
  have hgl : g < w1.heap.size := (hown.lt g rfl).2
  have hgw : w.heap.size < g := by omega
  have HG := Lib.hid hg
  clear hgrow hmb b0 hg
  go_wp2_with fail
  simp only [World.size_alloc, ← HG.out]
  go_loopw [8] (fun i wr => ∃ (k : Nat) (qs : List RD), k ≤ 3 ∧ i = .int .i64 k ∧ qs.length = k ∧ dks qs = [ds 0, ds 1, ds 2].take k ∧ wr.ownsRow g 60 3 (.slice (some ⟨g, 0, none⟩) 3 3) 3 (trios qs ++ dzeros (3 - k)) ∧ RIn wr g wr.heap.size (some g) qs ∧ B1 wr w.heap.size 24 (.slice none 0 0) ∧ Below w.heap.size w wr) (fun i _ => 3 - (intOf i).toNat)
  case atStart => exact ⟨0, [], by omega, rfl, rfl, rfl, hown, RIn.nil _ _ _ _, b1, hb1⟩
  case round =>
    obtain ⟨k, qs, hk, rfl, hql, hqd, ho, hR, b1, hb⟩ := hrel
    clear hown hb1 hgl
    have HQ := Lib.hid hqd
    have HL := Lib.hid hql
    clear hqd hql
    by_cases hlt : k < 3
    · have hlt' : (k : Int) < 3 := by omega
      obtain ⟨m, hm⟩ : ∃ m, 3 - k = m + 1 := ⟨3 - k - 1, by omega⟩
      have hm1 : 3 - (k + 1) = m := by omega
      rw [hm, dzeros_succ, ← List.append_assoc] at ho
      have hT := hF k wr hlt hb
      have hlt0 := (ho.lt g rfl).2
      have HM := Lib.hid hm1
      have hgw2 : g < wr.heap.size := hlt0
      clear hm hm1
      go_wp2_with (go_at_call 66; refine hT.mono ?_; rintro r w2 ⟨A', c', B', e', rfl, hv, hb2⟩; refine Hid.out ?_)
      refine Lib.hid ?_
      obtain ⟨q, hq⟩ : ∃ q : RD, q = ⟨A', c', B', e', ds k, wr.heap.size, w2.heap.size⟩ := ⟨_, rfl⟩
      have hqin : DkIn w2 q.l q.h q.val q.d := by rw [hq]; exact hv.in_
      have ho2 := own_bel ho hb2
      obtain ⟨y0, y1, y2⟩ := own_cells3 ho2 HL.out hlt
      have f0 := ho2.frozenAt (k * 3)
      have f1 := ho2.frozenAt (k * 3 + 1)
      have f2 := ho2.frozenAt (k * 3 + 2)
      have hset := own_set3 ho2 HL.out q
      have hR2 := (hR.below hb2).snoc (p := q) (top' := w2.heap.size) hqin (by rw [hq]; show g ≤ wr.heap.size; omega) (by rw [hq]; exact Nat.le_refl _) (by rw [hq]; exact hb2.size) (by rw [hq]; exact Nat.le_refl _) (fun k e => by cases e; rw [hq]; show ¬ (wr.heap.size ≤ g ∧ _); omega)
      have hR3 := ((hR2.row (grown_set w2 ⟨g, k * 3, none⟩ (.slice q.a q.d.cells.length q.c))).row (grown_set _ ⟨g, k * 3 + 1, none⟩ (.slice q.b q.d.waits.length q.e))).row (grown_set _ ⟨g, k * 3 + 2, none⟩ (.bool q.d.gone))
      have BB := (((bel_then hb hb2).setCell (p := ⟨g, k * 3, none⟩) (Nat.le_of_lt hgw) (.slice q.a q.d.cells.length q.c)).setCell (p := ⟨g, k * 3 + 1, none⟩) (Nat.le_of_lt hgw) (.slice q.b q.d.waits.length q.e)).setCell (p := ⟨g, k * 3 + 2, none⟩) (Nat.le_of_lt hgw) (.bool q.d.gone)
      have b3 := (((b1.below hb2).set (p := ⟨g, k * 3, none⟩) (by show w.heap.size ≠ g; omega) (.slice q.a q.d.cells.length q.c)).set (p := ⟨g, k * 3 + 1, none⟩) (by show w.heap.size ≠ g; omega) (.slice q.b q.d.waits.length q.e)).set (p := ⟨g, k * 3 + 2, none⟩) (by show w.heap.size ≠ g; omega) (.bool q.d.gone)
      have HD : Hid (dks (qs ++ [q]) = [ds 0, ds 1, ds 2].take (k + 1)) := Lib.hid (by
        have : dks (qs ++ [q]) = dks qs ++ [ds k] := by rw [hq]; simp [dks]
        rw [this, HQ.out]
        rcases (show k = 0 ∨ k = 1 ∨ k = 2 by omega) with rfl | rfl | rfl <;> rfl)
      have HLn : Hid ((qs ++ [q]).length = k + 1) := Lib.hid (by simp [HL.out])
      have e1 : q.a = A' ∧ q.c = c' ∧ q.b = B' ∧ q.e = e' ∧ q.d = ds k := by rw [hq]; exact ⟨rfl, rfl, rfl, rfl, rfl⟩
      simp only [e1.1, e1.2.1, e1.2.2.1, e1.2.2.2.1, e1.2.2.2.2] at hset hR3 BB b3
      have HS := Lib.hid hset
      have HR3 := Lib.hid hR3
      have HBB := Lib.hid BB
      have HB3 := Lib.hid b3
      clear hT hb2 hv hq hqin ho ho2 hset hR2 hR3 BB e1 hR b1 b3
      go_wp2_with fail
      go_roundw
      case rel => exact ⟨k + 1, qs ++ [q], by omega, by go_num, HLn.out, HD.out, by rw [HM.out]; exact HS.out, by simpa using HR3.out, HB3.out, HBB.out⟩
      case measure => simp [intOf]; omega
    · have hke : k = 3 := by omega
      subst hke
      rw [Nat.sub_self, show dzeros 0 = [] from rfl, List.append_nil] at ho
      have HO := Lib.hid ho
      obtain ⟨z0, zf⟩ := b1.cells
      clear ho hF
      go_wp2_with fail
      refine bodyPost_ret (v := .agg #[.slice (some ⟨g, 0, none⟩) 3 3]) (by simp [results, Try.f37, go_sem, z0]) rfl ⟨qs, some ⟨g, 0, none⟩, 3, by rw [HL.out], by rw [HQ.out]; rfl, ?_, hb.setCell (p := ⟨w.heap.size, 0, none⟩) (Nat.le_refl _) _⟩
      have hro : ROwn wr g (.slice (some ⟨g, 0, none⟩) 3 3) qs := ⟨by rw [HL.out]; exact HO.out, hR⟩
      rw [HL.out]
      exact (hro.set (p := ⟨w.heap.size, 0, none⟩) hgw _).base (Nat.le_of_lt hgw)

set_option maxRecDepth 100000 in
set_option maxHeartbeats 4000000 in
theorem rof_copied (ds : Nat → Dk) (a : Nat) (w : World) (hF : ∀ (j : Nat) (W : World), j < 3 → Below w.heap.size w W → Calls Try.prog 104 #[.int .i64 (j : Int), .pointer (some ⟨a, 0, none⟩)] W (DPost (ds j) W)) :
    Calls Try.prog 37 #[.func (.func 104) #[] #[.pointer (some ⟨a, 0, none⟩)]] w (RPost [ds 0, ds 1, ds 2] w) := by
  obtain ⟨i0, hi, hz0, hz1, hz2⟩ := info_parts Try.info60
  have hmb : Below w.heap.size w (w.alloc (.cells #[.slice none 0 0] 24)) := bel_new (Below.refl _ _) _
  have b0 := B1.new w 24 (.slice none 0 0)
  go_enter Try.func37, Try.ntmps37
  go_wp2_with (refine wpList_make_full _ rfl _ _ 22 rfl (w.heap.size + 1) 60 i0 (.agg #[.slice none 0 0, .slice none 0 0, .bool false]) 3 Try.underlying22 hi hz0 hz1 _ _ _ _ 3 rfl rfl rfl rfl (by rw [hz2]; decide) (by decide) (by simp) ?_; intro w1 hown hgrow; rw [made_disks] at hown; refine Hid.out ?_)
  refine Lib.hid ?_
  have hb1 : Below w.heap.size w w1 := hmb.grown hgrow hmb.size (fun k e => by cases e)
  have b1 := (hgrow.block w.heap.size b0.lt (by simp)).trans b0
  obtain ⟨g, hg⟩ : ∃ g, g = w.heap.size + 1 := ⟨_, rfl⟩
  simp only [World.size_alloc] at hown
  rw [← hg] at hown
  have hgl : g < w1.heap.size := (hown.lt g rfl).2
  have hgw : w.heap.size < g := by omega
  have HG := Lib.hid hg
  clear hgrow hmb b0 hg
  go_wp2_with fail
  simp only [World.size_alloc, ← HG.out]
  go_loopw [8] (fun i wr => ∃ (k : Nat) (qs : List RD), k ≤ 3 ∧ i = .int .i64 k ∧ qs.length = k ∧ dks qs = [ds 0, ds 1, ds 2].take k ∧ wr.ownsRow g 60 3 (.slice (some ⟨g, 0, none⟩) 3 3) 3 (trios qs ++ dzeros (3 - k)) ∧ RIn wr g wr.heap.size (some g) qs ∧ B1 wr w.heap.size 24 (.slice none 0 0) ∧ Below w.heap.size w wr) (fun i _ => 3 - (intOf i).toNat)
  case atStart => exact ⟨0, [], by omega, rfl, rfl, rfl, hown, RIn.nil _ _ _ _, b1, hb1⟩
  case round =>
    obtain ⟨k, qs, hk, rfl, hql, hqd, ho, hR, b1, hb⟩ := hrel
    clear hown hb1 hgl
    have HQ := Lib.hid hqd
    have HL := Lib.hid hql
    clear hqd hql
    by_cases hlt : k < 3
    · have hlt' : (k : Int) < 3 := by omega
      obtain ⟨m, hm⟩ : ∃ m, 3 - k = m + 1 := ⟨3 - k - 1, by omega⟩
      have hm1 : 3 - (k + 1) = m := by omega
      rw [hm, dzeros_succ, ← List.append_assoc] at ho
      have hT := hF k wr hlt hb
      have hlt0 := (ho.lt g rfl).2
      have HM := Lib.hid hm1
      have hgw2 : g < wr.heap.size := hlt0
      clear hm hm1
      go_wp2_with (go_at_call 104; refine hT.mono ?_; rintro r w2 ⟨A', c', B', e', rfl, hv, hb2⟩; refine Hid.out ?_)
      refine Lib.hid ?_
      obtain ⟨q, hq⟩ : ∃ q : RD, q = ⟨A', c', B', e', ds k, wr.heap.size, w2.heap.size⟩ := ⟨_, rfl⟩
      have hqin : DkIn w2 q.l q.h q.val q.d := by rw [hq]; exact hv.in_
      have ho2 := own_bel ho hb2
      obtain ⟨y0, y1, y2⟩ := own_cells3 ho2 HL.out hlt
      have f0 := ho2.frozenAt (k * 3)
      have f1 := ho2.frozenAt (k * 3 + 1)
      have f2 := ho2.frozenAt (k * 3 + 2)
      have hset := own_set3 ho2 HL.out q
      have hR2 := (hR.below hb2).snoc (p := q) (top' := w2.heap.size) hqin (by rw [hq]; show g ≤ wr.heap.size; omega) (by rw [hq]; exact Nat.le_refl _) (by rw [hq]; exact hb2.size) (by rw [hq]; exact Nat.le_refl _) (fun k e => by cases e; rw [hq]; show ¬ (wr.heap.size ≤ g ∧ _); omega)
      have hR3 := ((hR2.row (grown_set w2 ⟨g, k * 3, none⟩ (.slice q.a q.d.cells.length q.c))).row (grown_set _ ⟨g, k * 3 + 1, none⟩ (.slice q.b q.d.waits.length q.e))).row (grown_set _ ⟨g, k * 3 + 2, none⟩ (.bool q.d.gone))
      have BB := (((bel_then hb hb2).setCell (p := ⟨g, k * 3, none⟩) (Nat.le_of_lt hgw) (.slice q.a q.d.cells.length q.c)).setCell (p := ⟨g, k * 3 + 1, none⟩) (Nat.le_of_lt hgw) (.slice q.b q.d.waits.length q.e)).setCell (p := ⟨g, k * 3 + 2, none⟩) (Nat.le_of_lt hgw) (.bool q.d.gone)
      have b3 := (((b1.below hb2).set (p := ⟨g, k * 3, none⟩) (by show w.heap.size ≠ g; omega) (.slice q.a q.d.cells.length q.c)).set (p := ⟨g, k * 3 + 1, none⟩) (by show w.heap.size ≠ g; omega) (.slice q.b q.d.waits.length q.e)).set (p := ⟨g, k * 3 + 2, none⟩) (by show w.heap.size ≠ g; omega) (.bool q.d.gone)
      have HD : Hid (dks (qs ++ [q]) = [ds 0, ds 1, ds 2].take (k + 1)) := Lib.hid (by
        have : dks (qs ++ [q]) = dks qs ++ [ds k] := by rw [hq]; simp [dks]
        rw [this, HQ.out]
        rcases (show k = 0 ∨ k = 1 ∨ k = 2 by omega) with rfl | rfl | rfl <;> rfl)
      have HLn : Hid ((qs ++ [q]).length = k + 1) := Lib.hid (by simp [HL.out])
      have e1 : q.a = A' ∧ q.c = c' ∧ q.b = B' ∧ q.e = e' ∧ q.d = ds k := by rw [hq]; exact ⟨rfl, rfl, rfl, rfl, rfl⟩
      simp only [e1.1, e1.2.1, e1.2.2.1, e1.2.2.2.1, e1.2.2.2.2] at hset hR3 BB b3
      have HS := Lib.hid hset
      have HR3 := Lib.hid hR3
      have HBB := Lib.hid BB
      have HB3 := Lib.hid b3
      clear hT hb2 hv hq hqin ho ho2 hset hR2 hR3 BB e1 hR b1 b3
      go_wp2_with fail
      go_roundw
      case rel => exact ⟨k + 1, qs ++ [q], by omega, by go_num, HLn.out, HD.out, by rw [HM.out]; exact HS.out, by simpa using HR3.out, HB3.out, HBB.out⟩
      case measure => simp [intOf]; omega
    · have hke : k = 3 := by omega
      subst hke
      rw [Nat.sub_self, show dzeros 0 = [] from rfl, List.append_nil] at ho
      have HO := Lib.hid ho
      obtain ⟨z0, zf⟩ := b1.cells
      clear ho hF
      go_wp2_with fail
      refine bodyPost_ret (v := .agg #[.slice (some ⟨g, 0, none⟩) 3 3]) (by simp [results, Try.f37, go_sem, z0]) rfl ⟨qs, some ⟨g, 0, none⟩, 3, by rw [HL.out], by rw [HQ.out]; rfl, ?_, hb.setCell (p := ⟨w.heap.size, 0, none⟩) (Nat.le_refl _) _⟩
      have hro : ROwn wr g (.slice (some ⟨g, 0, none⟩) 3 3) qs := ⟨by rw [HL.out]; exact HO.out, hR⟩
      rw [HL.out]
      exact (hro.set (p := ⟨w.heap.size, 0, none⟩) hgw _).base (Nat.le_of_lt hgw)

set_option maxRecDepth 100000 in
set_option maxHeartbeats 4000000 in
theorem rof_crash (ds : Nat → Dk) (a b c : Nat) (w : World) (hF : ∀ (j : Nat) (W : World), j < 3 → Below w.heap.size w W → Calls Try.prog 70 #[.int .i64 (j : Int), .pointer (some ⟨a, 0, none⟩), .pointer (some ⟨b, 0, none⟩), .pointer (some ⟨c, 0, none⟩)] W (DPost (ds j) W)) :
    Calls Try.prog 37 #[.func (.func 70) #[] #[.pointer (some ⟨a, 0, none⟩), .pointer (some ⟨b, 0, none⟩), .pointer (some ⟨c, 0, none⟩)]] w (RPost [ds 0, ds 1, ds 2] w) := by
  obtain ⟨i0, hi, hz0, hz1, hz2⟩ := info_parts Try.info60
  have hmb : Below w.heap.size w (w.alloc (.cells #[.slice none 0 0] 24)) := bel_new (Below.refl _ _) _
  have b0 := B1.new w 24 (.slice none 0 0)
  go_enter Try.func37, Try.ntmps37
  go_wp2_with (refine wpList_make_full _ rfl _ _ 22 rfl (w.heap.size + 1) 60 i0 (.agg #[.slice none 0 0, .slice none 0 0, .bool false]) 3 Try.underlying22 hi hz0 hz1 _ _ _ _ 3 rfl rfl rfl rfl (by rw [hz2]; decide) (by decide) (by simp) ?_; intro w1 hown hgrow; rw [made_disks] at hown; refine Hid.out ?_)
  refine Lib.hid ?_
  have hb1 : Below w.heap.size w w1 := hmb.grown hgrow hmb.size (fun k e => by cases e)
  have b1 := (hgrow.block w.heap.size b0.lt (by simp)).trans b0
  obtain ⟨g, hg⟩ : ∃ g, g = w.heap.size + 1 := ⟨_, rfl⟩
  simp only [World.size_alloc] at hown
  rw [← hg] at hown
  have hgl : g < w1.heap.size := (hown.lt g rfl).2
  have hgw : w.heap.size < g := by omega
  have HG := Lib.hid hg
  clear hgrow hmb b0 hg
  go_wp2_with fail
  simp only [World.size_alloc, ← HG.out]
  go_loopw [8] (fun i wr => ∃ (k : Nat) (qs : List RD), k ≤ 3 ∧ i = .int .i64 k ∧ qs.length = k ∧ dks qs = [ds 0, ds 1, ds 2].take k ∧ wr.ownsRow g 60 3 (.slice (some ⟨g, 0, none⟩) 3 3) 3 (trios qs ++ dzeros (3 - k)) ∧ RIn wr g wr.heap.size (some g) qs ∧ B1 wr w.heap.size 24 (.slice none 0 0) ∧ Below w.heap.size w wr) (fun i _ => 3 - (intOf i).toNat)
  case atStart => exact ⟨0, [], by omega, rfl, rfl, rfl, hown, RIn.nil _ _ _ _, b1, hb1⟩
  case round =>
    obtain ⟨k, qs, hk, rfl, hql, hqd, ho, hR, b1, hb⟩ := hrel
    clear hown hb1 hgl
    have HQ := Lib.hid hqd
    have HL := Lib.hid hql
    clear hqd hql
    by_cases hlt : k < 3
    · have hlt' : (k : Int) < 3 := by omega
      obtain ⟨m, hm⟩ : ∃ m, 3 - k = m + 1 := ⟨3 - k - 1, by omega⟩
      have hm1 : 3 - (k + 1) = m := by omega
      rw [hm, dzeros_succ, ← List.append_assoc] at ho
      have hT := hF k wr hlt hb
      have hlt0 := (ho.lt g rfl).2
      have HM := Lib.hid hm1
      have hgw2 : g < wr.heap.size := hlt0
      clear hm hm1
      go_wp2_with (go_at_call 70; refine hT.mono ?_; rintro r w2 ⟨A', c', B', e', rfl, hv, hb2⟩; refine Hid.out ?_)
      refine Lib.hid ?_
      obtain ⟨q, hq⟩ : ∃ q : RD, q = ⟨A', c', B', e', ds k, wr.heap.size, w2.heap.size⟩ := ⟨_, rfl⟩
      have hqin : DkIn w2 q.l q.h q.val q.d := by rw [hq]; exact hv.in_
      have ho2 := own_bel ho hb2
      obtain ⟨y0, y1, y2⟩ := own_cells3 ho2 HL.out hlt
      have f0 := ho2.frozenAt (k * 3)
      have f1 := ho2.frozenAt (k * 3 + 1)
      have f2 := ho2.frozenAt (k * 3 + 2)
      have hset := own_set3 ho2 HL.out q
      have hR2 := (hR.below hb2).snoc (p := q) (top' := w2.heap.size) hqin (by rw [hq]; show g ≤ wr.heap.size; omega) (by rw [hq]; exact Nat.le_refl _) (by rw [hq]; exact hb2.size) (by rw [hq]; exact Nat.le_refl _) (fun k e => by cases e; rw [hq]; show ¬ (wr.heap.size ≤ g ∧ _); omega)
      have hR3 := ((hR2.row (grown_set w2 ⟨g, k * 3, none⟩ (.slice q.a q.d.cells.length q.c))).row (grown_set _ ⟨g, k * 3 + 1, none⟩ (.slice q.b q.d.waits.length q.e))).row (grown_set _ ⟨g, k * 3 + 2, none⟩ (.bool q.d.gone))
      have BB := (((bel_then hb hb2).setCell (p := ⟨g, k * 3, none⟩) (Nat.le_of_lt hgw) (.slice q.a q.d.cells.length q.c)).setCell (p := ⟨g, k * 3 + 1, none⟩) (Nat.le_of_lt hgw) (.slice q.b q.d.waits.length q.e)).setCell (p := ⟨g, k * 3 + 2, none⟩) (Nat.le_of_lt hgw) (.bool q.d.gone)
      have b3 := (((b1.below hb2).set (p := ⟨g, k * 3, none⟩) (by show w.heap.size ≠ g; omega) (.slice q.a q.d.cells.length q.c)).set (p := ⟨g, k * 3 + 1, none⟩) (by show w.heap.size ≠ g; omega) (.slice q.b q.d.waits.length q.e)).set (p := ⟨g, k * 3 + 2, none⟩) (by show w.heap.size ≠ g; omega) (.bool q.d.gone)
      have HD : Hid (dks (qs ++ [q]) = [ds 0, ds 1, ds 2].take (k + 1)) := Lib.hid (by
        have : dks (qs ++ [q]) = dks qs ++ [ds k] := by rw [hq]; simp [dks]
        rw [this, HQ.out]
        rcases (show k = 0 ∨ k = 1 ∨ k = 2 by omega) with rfl | rfl | rfl <;> rfl)
      have HLn : Hid ((qs ++ [q]).length = k + 1) := Lib.hid (by simp [HL.out])
      have e1 : q.a = A' ∧ q.c = c' ∧ q.b = B' ∧ q.e = e' ∧ q.d = ds k := by rw [hq]; exact ⟨rfl, rfl, rfl, rfl, rfl⟩
      simp only [e1.1, e1.2.1, e1.2.2.1, e1.2.2.2.1, e1.2.2.2.2] at hset hR3 BB b3
      have HS := Lib.hid hset
      have HR3 := Lib.hid hR3
      have HBB := Lib.hid BB
      have HB3 := Lib.hid b3
      clear hT hb2 hv hq hqin ho ho2 hset hR2 hR3 BB e1 hR b1 b3
      go_wp2_with fail
      go_roundw
      case rel => exact ⟨k + 1, qs ++ [q], by omega, by go_num, HLn.out, HD.out, by rw [HM.out]; exact HS.out, by simpa using HR3.out, HB3.out, HBB.out⟩
      case measure => simp [intOf]; omega
    · have hke : k = 3 := by omega
      subst hke
      rw [Nat.sub_self, show dzeros 0 = [] from rfl, List.append_nil] at ho
      have HO := Lib.hid ho
      obtain ⟨z0, zf⟩ := b1.cells
      clear ho hF
      go_wp2_with fail
      refine bodyPost_ret (v := .agg #[.slice (some ⟨g, 0, none⟩) 3 3]) (by simp [results, Try.f37, go_sem, z0]) rfl ⟨qs, some ⟨g, 0, none⟩, 3, by rw [HL.out], by rw [HQ.out]; rfl, ?_, hb.setCell (p := ⟨w.heap.size, 0, none⟩) (Nat.le_refl _) _⟩
      have hro : ROwn wr g (.slice (some ⟨g, 0, none⟩) 3 3) qs := ⟨by rw [HL.out]; exact HO.out, hR⟩
      rw [HL.out]
      exact (hro.set (p := ⟨w.heap.size, 0, none⟩) hgw _).base (Nat.le_of_lt hgw)
end Go.Proofs.Ytndckncoipkhaaa
