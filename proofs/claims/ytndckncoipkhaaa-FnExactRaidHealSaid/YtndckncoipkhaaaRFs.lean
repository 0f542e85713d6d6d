/-
  Flushing a set of disks, as the reference does; and what its result is like.
-/
import Derived.Test.YtndckncoipkhaaaRFi
import Derived.Test.YtndckncoipkhaaaWNw
import Derived.Test.YtndckncoipkhaaaArgs
namespace Go.Proofs.Ytndckncoipkhaaa
open Go.RowKit

theorem B1.belowB {W W' : World} {b g : Nat} {t : TypeId} {x : Value} (h : B1 W g t x) (hb : Below b W W') (hg : g < b) : B1 W' g t x := (hb.block g hg).trans h
theorem rs_each {ps qs : List RD} (h : ∀ d ∈ dks ps, DkOk d) (hq : dks qs = dks ps) : ∀ q ∈ qs, DkOk q.d := fun q hqq => h _ (by rw [← hq]; exact List.mem_map.2 ⟨q, hqq, rfl⟩)
theorem dks_same {ps qs : List RD} (hq : dks qs = dks ps) : qs.length = ps.length := by rw [← dks_len, hq, dks_len]

set_option maxRecDepth 100000 in
set_option maxHeartbeats 2000000 in
theorem spec_rflush (A : Option Addr) (cap : Nat) (ps : List RD) (w : World) (hn : ps.length ≤ 1048576) (hf : ∀ p ∈ ps, Bulk p.d) (hA : RAt w A ps) :
    Calls Try.prog 27 #[.agg #[.slice A ps.length cap]] w (RPostK (flushR (dks ps)) w) := by
  have bl : Below w.heap.size w ((w.alloc (.cells #[.slice A ps.length cap] 24)).alloc (.cells #[.slice none 0 0] 24)) := bel_new (bel_new (Below.refl _ _) _) _
  have b0 := (B1.new w 24 (.slice A ps.length cap)).alloc (.cells #[.slice none 0 0] 24)
  have b1 := B1.new (w.alloc (.cells #[.slice A ps.length cap] 24)) 24 (.slice none 0 0)
  rw [World.size_alloc] at b1
  have hH := spec_rok A cap ps _ hn hf (hA.below bl)
  by_cases hok : RsOk (dks ps)
  · have h3 : Hid (ps.length = 3) := Lib.hid (by have := hok.1; rwa [dks_len] at this)
    rw [okR_yes hok] at hH
    rw [flushR_yes hok]
    have HO := Lib.hid hok.2
    have hR := fun W (hW : Below w.heap.size w W) => spec_rcopy A cap ps W hn hf (hA.below hW)
    clear hf hA hok
    go_enter Try.func27, Try.ntmps27
    go_wp2_with (go_at_call 17; refine hH.mono ?_; rintro r w2 ⟨rfl, hb2⟩; refine Hid.out ?_)
    refine Lib.hid ?_
    have c0 := b0.below hb2
    have c1 := b1.below hb2
    have s2 := hb2.size
    have BB := bel_then bl hb2
    have L := hR _ BB
    clear hR hH hb2 b0 b1 bl
    obtain ⟨x0, _⟩ := c0.cells
    go_wp2_with (go_at_call 50; refine L.mono ?_; rintro r w3 ⟨qs, A2, c2, rfl, hq, ho, hb3⟩; refine Hid.out ?_)
    refine Lib.hid ?_
    have d1 := c1.below hb3
    have s3 := hb3.size
    have BB := bel_then BB hb3
    have hql := dks_same hq
    obtain ⟨g, rfl, hg⟩ := own_goneAt ho.1 (by rw [hql, h3.out]; decide)
    have L2 := spec_flushes w2.heap.size g c2 qs w3 (by rw [hql]; exact hn) (rs_each HO.out hq) s3 ho
    rw [hq] at L2
    have hlt2 : w.heap.size + 1 < w2.heap.size := c1.lt
    have s5 : w.heap.size ≤ w2.heap.size := by omega
    clear L x0 c0 c1 hb3 hql ho s2 hq
    go_wp2_with (go_at_call 65; refine L2.mono ?_; rintro r w4 ⟨cur, rfl, hcur, hk, hb4⟩; obtain ⟨y0, f0⟩ := (d1.belowB hb4 hlt2).cells)
    exact bodyPost_ret (v := .agg #[.slice (some ⟨g, 0, none⟩) cur.length c2]) (by simp [results, Try.f27, go_sem, y0]) rfl ⟨cur, some ⟨g, 0, none⟩, c2, rfl, hcur, ((hk.set (p := ⟨w.heap.size + 1, 0, none⟩) hlt2 _).wide s5 (Nat.le_of_eq (size_put _ _ _).symm)), (BB.trans (hb4.mono s5)).setCell (p := ⟨w.heap.size + 1, 0, none⟩) (Nat.le_succ _) _⟩
  · rw [okR_no hok] at hH
    rw [flushR_no hok]
    clear hok hf hA
    obtain ⟨x0, _⟩ := b0.cells
    go_enter Try.func27, Try.ntmps27
    go_wp2_with (go_at_call 17; refine hH.mono ?_; rintro r w2 ⟨rfl, hb2⟩; obtain ⟨y0, f0⟩ := (b1.below hb2).cells)
    have hlt := (b1.below hb2).lt
    exact bodyPost_ret (v := .agg #[.slice none 0 0]) (by simp [results, Try.f27, go_sem, y0]) rfl ⟨[], none, 0, rfl, rfl, RKeep.none _ _ _, (bel_then bl hb2).setCell (p := ⟨w.heap.size + 1, 0, none⟩) (Nat.le_succ _) _⟩

theorem B1.drew {W : World} {g : Nat} {t : TypeId} {x : Value} (h : B1 W g t x) : B1 W.drew g t x := h
theorem RBox.drew {W : World} {lo hi : Nat} {u : Value} {ps : List RD} (h : RBox W lo hi u ps) : RBox W.drew lo hi u ps := ⟨h.1, ⟨h.2.each, h.2.apart⟩⟩
theorem small_arg {ps : List RD} {z : Int} (hf : ∀ p ∈ ps, Fits p.d) (hz : ((ps.length + wtR (dks ps) : Nat) : Int) ≤ 1048576 - z) (h0 : 0 ≤ z) : Small (dks ps) := by
  have hm := mkR_le (dks ps)
  rw [dks_len] at hm
  refine ⟨by rw [dks_len]; omega, fun d hd => ?_, by omega⟩
  have hw := wtR_mem hd
  obtain ⟨p, hp, rfl⟩ := List.mem_map.1 hd
  exact (hf p hp).bulk (by omega) (by omega)
theorem small_nil : Small [] := ⟨by decide, fun d hd => (by cases hd), by decide⟩
/-- Three disks of few cells. -/
theorem small_three {R : List Dk} (h3 : R.length = 3) (hd : ∀ d ∈ R, Bulk d ∧ d.cells.length ≤ 64 ∧ d.waits.length ≤ 120) : Small R := by
  refine ⟨by omega, fun d h => (hd d h).1, ?_⟩
  match R, h3, hd with
  | [a, b, c], _, hd =>
    have ha := (hd a (by simp)).2
    have hb := (hd b (by simp)).2
    have hc := (hd c (by simp)).2
    simp only [mkR]
    omega
theorem bulk_flush {d : Dk} (h : DkOk d) : Bulk (flushD d) ∧ (flushD d).cells.length ≤ 64 ∧ (flushD d).waits.length ≤ 120 := by
  rw [flushD_yes h]
  obtain ⟨h64, _, _, hsm, hws⟩ := h
  have hl := st_len d.waits 1152921504606846975 (-1) d.cells d.waits.length
  have hs := st_small (mask := 1152921504606846975) (tear := -1) hsm hws d.waits.length
  refine ⟨⟨by simp only [hl]; omega, Nat.zero_le _, fun s hs' => ?_, fun x hx => by cases hx⟩, by simp only [hl]; omega, Nat.zero_le _⟩
  exact Nat.le_trans (hs s hs') (by decide)
theorem small_flush {R : List Dk} : Small (flushR R) := by
  by_cases h : RsOk R
  · rw [flushR_yes h]
    refine small_three (by rw [List.length_map]; exact h.1) fun d hd => ?_
    obtain ⟨x, hx, rfl⟩ := List.mem_map.1 hd
    exact bulk_flush (h.2 x hx)
  · rw [flushR_no h]
    exact small_nil
end Go.Proofs.Ytndckncoipkhaaa
