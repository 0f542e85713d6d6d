/-
  Sets of disks behind a power failure: the program's way, whole.
-/
import Derived.Test.YtndckncoipkhaaaRCi
namespace Go.Proofs.Ytndckncoipkhaaa
open Go.RowKit

theorem three_cr {ps : List RD} {ms ts : List Int} (h : ps.length = 3) : [crashD ((dks ps).getD 0 dk0) (ms.getD 0 0) (ts.getD 0 0), crashD ((dks ps).getD 1 dk0) (ms.getD 1 0) (ts.getD 1 0), crashD ((dks ps).getD 2 dk0) (ms.getD 2 0) (ts.getD 2 0)] = crL (dks ps) ms ts := by
  unfold crL
  rw [dks_len, h]
  rfl
theorem least_sign {ms : List Int} {z : Int} (h : leastTo ms ms.length z) : (0 ≤ z ↔ ∀ m ∈ ms, 0 ≤ m) := by
  obtain ⟨h1, j, hj, rfl⟩ := h
  constructor
  · intro h0 m hm
    obtain ⟨i, hi, rfl⟩ := List.getElem_of_mem hm
    have := h1 i hi hi
    omega
  · intro h0
    exact h0 _ (List.getElem_mem hj)

set_option maxRecDepth 100000 in
set_option maxHeartbeats 4000000 in
theorem impl_rcrash (A : Option Addr) (cap : Nat) (ps : List RD) (M : Option Addr) (mc : Nat) (ms : List Int) (T : Option Addr) (tc : Nat) (ts : List Int) (w : World) (hn : ps.length ≤ 1048576) (hf : ∀ p ∈ ps, Bulk p.d) (hA : RAt w A ps) (hml : ms.length ≤ 1048576) (htl : ts.length ≤ 1048576) (hM : Lies w M (intCells ms)) (hT : Lies w T (intCells ts)) (hmb : ∀ m ∈ ms, m ≤ 9223372036854775807) :
    Calls Try.prog 31 #[.agg #[.slice A ps.length cap], .slice M ms.length mc, .slice T ts.length tc] w (RPost (crashR (dks ps) ms ts) w) := by
  obtain ⟨W0, hW0⟩ : ∃ W, W = ((((w.alloc (.cells #[.slice A ps.length cap] 24)).alloc (.cells #[.slice M ms.length mc] 49)).alloc (.cells #[.slice T ts.length tc] 49)).alloc (.cells #[.slice none 0 0] 24)) := ⟨_, rfl⟩
  have bl : Below w.heap.size w W0 := by rw [hW0]; exact bel_new (bel_new (bel_new (bel_new (Below.refl _ _) _) _) _) _
  have ba : B1 W0 w.heap.size 24 (.slice A ps.length cap) := by rw [hW0]; exact (((B1.new w 24 _).alloc _).alloc _).alloc _
  have bb : B1 W0 (w.heap.size + 1) 49 (.slice M ms.length mc) := by
    have := ((B1.new (w.alloc (.cells #[.slice A ps.length cap] 24)) 49 (.slice M ms.length mc)).alloc (.cells #[.slice T ts.length tc] 49)).alloc (.cells #[.slice none 0 0] 24)
    rw [World.size_alloc] at this
    rw [hW0]; exact this
  have bc : B1 W0 (w.heap.size + 1 + 1) 49 (.slice T ts.length tc) := by
    have := (B1.new ((w.alloc (.cells #[.slice A ps.length cap] 24)).alloc (.cells #[.slice M ms.length mc] 49)) 49 (.slice T ts.length tc)).alloc (.cells #[.slice none 0 0] 24)
    rw [World.size_alloc, World.size_alloc] at this
    rw [hW0]; exact this
  have br : B1 W0 (w.heap.size + 1 + 1 + 1) 24 (.slice none 0 0) := by
    have := B1.new (((w.alloc (.cells #[.slice A ps.length cap] 24)).alloc (.cells #[.slice M ms.length mc] 49)).alloc (.cells #[.slice T ts.length tc] 49)) 24 (.slice none 0 0)
    rw [World.size_alloc, World.size_alloc, World.size_alloc] at this
    rw [hW0]; exact this
  have hH := m_rok A cap ps W0 hn hf (hA.below bl)
  by_cases hok : RsOk (dks ps)
  · rw [okR_yes hok] at hH
    have h3 : ps.length = 3 := by have := hok.1; rwa [dks_len] at this
    by_cases hm3 : ms.length = 3
    · have e1 : ((ms.length : Int) != 3) = false := by rw [hm3]; rfl
      by_cases ht3 : ts.length = 3
      · have e2 : ((ts.length : Int) != 3) = false := by rw [ht3]; rfl
        have hMn := fun W (hW : Below w.heap.size w W) => slices_min M mc ms W (by omega) hml (hM.below hW)
        by_cases hpos : ∀ m ∈ ms, 0 ≤ m
        · have hG : GoodM (dks ps) ms ts := ⟨hok, hm3, ht3, hpos⟩
          rw [crashR_yes hG, ← three_cr h3]
          have hMn2 : ∀ W, Below w.heap.size w W → Calls Try.prog 69 #[.slice M ms.length mc] W fun r w' => ∃ z : Int, r = .returned (.int .i64 z) ∧ ¬ z < 0 ∧ Below W.heap.size W w' := fun W hW => (hMn W hW).mono fun r w' ⟨z, e, hz, hb⟩ => ⟨z, e, by have := (least_sign hz).2 hpos; omega, hb⟩
          have hR := fun W (hW : Below w.heap.size w W) (h1 : B1 W w.heap.size 24 (.slice A ps.length cap)) (h2 : B1 W (w.heap.size + 1) 49 (.slice M ms.length mc)) (h4 : B1 W (w.heap.size + 1 + 1) 49 (.slice T ts.length tc)) => rof_crash (fun j => crashD ((dks ps).getD j dk0) (ms.getD j 0) (ts.getD j 0)) w.heap.size (w.heap.size + 1) (w.heap.size + 1 + 1) W (fun j W' hj hW' => by
            have hjm : j < ms.length := by omega
            have hjt : j < ts.length := by omega
            have := crash1 w.heap.size (w.heap.size + 1) (w.heap.size + 1 + 1) A ps.length cap M T mc tc ms ts ps j W' ((h1.below hW').cells.1) (h1.below hW').lt ((h2.below hW').cells.1) (h2.below hW').lt ((h4.below hW').cells.1) (h4.below hW').lt rfl (by omega) hjm hjt hn hml htl hf ((hA.below hW).below hW') ((hM.below hW).below hW') ((hT.below hW).below hW') (hmb _ (List.getElem_mem hjm))
            show Calls Try.prog 70 _ W' (DPost (crashD ((dks ps).getD j dk0) (ms.getD j 0) (ts.getD j 0)) W')
            rw [dks_getD (by omega), List.getD_eq_getElem?_getD, List.getElem?_eq_getElem hjm, List.getD_eq_getElem?_getD, List.getElem?_eq_getElem hjt]
            exact this)
          obtain ⟨R, hRR⟩ : ∃ R, R = [crashD ((dks ps).getD 0 dk0) (ms.getD 0 0) (ts.getD 0 0), crashD ((dks ps).getD 1 dk0) (ms.getD 1 0) (ts.getD 1 0), crashD ((dks ps).getD 2 dk0) (ms.getD 2 0) (ts.getD 2 0)] := ⟨_, rfl⟩
          simp only [← hRR] at hR ⊢
          clear hRR hf hA hok h3 hm3 ht3 hM hT hmb hMn hpos hG
          subst hW0
          go_enter Try.func31, Try.ntmps31
          go_wp2_with (go_at_call 46; refine hH.mono ?_; rintro r w2 ⟨rfl, hb2⟩; refine Hid.out ?_)
          refine Lib.hid ?_
          have ba := ba.below hb2
          have bb := bb.below hb2
          have bc := bc.below hb2
          have br := br.below hb2
          have s2 : w.heap.size ≤ w2.heap.size := Nat.le_trans bl.size hb2.size
          have BB := bel_then bl hb2
          clear hH hb2 bl
          obtain ⟨x1, _⟩ := bb.cells
          obtain ⟨x2, _⟩ := bc.cells
          go_wp2_with (go_at_call 69; refine (hMn2 _ BB).mono ?_; rintro r w3 ⟨z, rfl, hz, hb3⟩; refine Hid.out ?_)
          refine Lib.hid ?_
          have ba := ba.below hb3
          have bb := bb.below hb3
          have bc := bc.below hb3
          have br := br.below hb3
          have s3 := hb3.size
          have BB := bel_then BB hb3
          have L := hR _ BB ba bb bc
          have hlt := br.lt
          clear x1 x2 hb3 hR hMn2 ba bb bc
          go_wp2_with (go_at_call 37; refine L.mono ?_; rintro r w4 ⟨qs, A2, c2, rfl, hq, ho, hb4⟩; obtain ⟨y0, f0⟩ := (br.below hb4).cells)
          exact bodyPost_ret (v := .agg #[.slice A2 qs.length c2]) (by simp [results, Try.f31, go_sem, y0]) rfl ⟨qs, A2, c2, rfl, hq, (ho.set (p := ⟨w.heap.size + 1 + 1 + 1, 0, none⟩) hlt _).base (by omega), (bel_then BB hb4).setCell (p := ⟨w.heap.size + 1 + 1 + 1, 0, none⟩) (by show w.heap.size ≤ w.heap.size + 1 + 1 + 1; omega) _⟩
        · rw [crashR_no (fun h => hpos h.2.2.2)]
          have hMn2 : ∀ W, Below w.heap.size w W → Calls Try.prog 69 #[.slice M ms.length mc] W fun r w' => ∃ z : Int, r = .returned (.int .i64 z) ∧ z < 0 ∧ Below W.heap.size W w' := fun W hW => (hMn W hW).mono fun r w' ⟨z, e, hz, hb⟩ => ⟨z, e, by
            by_cases h0 : 0 ≤ z
            · exact absurd ((least_sign hz).1 h0) hpos
            · omega, hb⟩
          clear hf hA hok h3 hm3 ht3 hM hT hmb hMn hpos
          subst hW0
          go_enter Try.func31, Try.ntmps31
          go_wp2_with (go_at_call 46; refine hH.mono ?_; rintro r w2 ⟨rfl, hb2⟩; refine Hid.out ?_)
          refine Lib.hid ?_
          have bb := bb.below hb2
          have bc := bc.below hb2
          have br := br.below hb2
          have BB := bel_then bl hb2
          clear hH hb2 bl ba
          obtain ⟨x1, _⟩ := bb.cells
          obtain ⟨x2, _⟩ := bc.cells
          go_wp2_with (go_at_call 69; refine (hMn2 _ BB).mono ?_; rintro r w3 ⟨z, rfl, hz, hb3⟩; obtain ⟨y0, f0⟩ := (br.below hb3).cells)
          exact bodyPost_ret (v := .agg #[.slice none 0 0]) (by simp [results, Try.f31, go_sem, y0]) rfl ⟨[], none, 0, rfl, rfl, ROwn.none _ _, (bel_then BB hb3).setCell (p := ⟨w.heap.size + 1 + 1 + 1, 0, none⟩) (by show w.heap.size ≤ w.heap.size + 1 + 1 + 1; omega) _⟩
      · have e2 : ((ts.length : Int) != 3) = true := by simp; omega
        rw [crashR_no (fun h => ht3 h.2.2.1)]
        clear hf hA hok h3 hm3 ht3 hM hT hmb
        subst hW0
        go_enter Try.func31, Try.ntmps31
        go_wp2_with (go_at_call 46; refine hH.mono ?_; rintro r w2 ⟨rfl, hb2⟩; obtain ⟨x1, _⟩ := (bb.below hb2).cells; obtain ⟨x2, _⟩ := (bc.below hb2).cells; obtain ⟨y0, f0⟩ := (br.below hb2).cells)
        exact bodyPost_ret (v := .agg #[.slice none 0 0]) (by simp [results, Try.f31, go_sem, y0]) rfl ⟨[], none, 0, rfl, rfl, ROwn.none _ _, (bel_then bl hb2).setCell (p := ⟨w.heap.size + 1 + 1 + 1, 0, none⟩) (by show w.heap.size ≤ w.heap.size + 1 + 1 + 1; omega) _⟩
    · have e1 : ((ms.length : Int) != 3) = true := by simp; omega
      rw [crashR_no (fun h => hm3 h.2.1)]
      clear hf hA hok h3 hm3 hM hT hmb
      subst hW0
      go_enter Try.func31, Try.ntmps31
      go_wp2_with (go_at_call 46; refine hH.mono ?_; rintro r w2 ⟨rfl, hb2⟩; obtain ⟨x1, _⟩ := (bb.below hb2).cells; obtain ⟨y0, f0⟩ := (br.below hb2).cells)
      exact bodyPost_ret (v := .agg #[.slice none 0 0]) (by simp [results, Try.f31, go_sem, y0]) rfl ⟨[], none, 0, rfl, rfl, ROwn.none _ _, (bel_then bl hb2).setCell (p := ⟨w.heap.size + 1 + 1 + 1, 0, none⟩) (by show w.heap.size ≤ w.heap.size + 1 + 1 + 1; omega) _⟩
  · rw [okR_no hok] at hH
    rw [crashR_no (fun h => hok h.1)]
    clear hf hA hok hM hT hmb
    subst hW0
    go_enter Try.func31, Try.ntmps31
    go_wp2_with (go_at_call 46; refine hH.mono ?_; rintro r w2 ⟨rfl, hb2⟩; obtain ⟨y0, f0⟩ := (br.below hb2).cells)
    exact bodyPost_ret (v := .agg #[.slice none 0 0]) (by simp [results, Try.f31, go_sem, y0]) rfl ⟨[], none, 0, rfl, rfl, ROwn.none _ _, (bel_then bl hb2).setCell (p := ⟨w.heap.size + 1 + 1 + 1, 0, none⟩) (by show w.heap.size ≤ w.heap.size + 1 + 1 + 1; omega) _⟩
end Go.Proofs.Ytndckncoipkhaaa
