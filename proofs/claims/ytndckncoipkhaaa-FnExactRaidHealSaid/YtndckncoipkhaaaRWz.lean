/-
  RaidWrite, as the reference does.
-/
import Derived.Test.YtndckncoipkhaaaRWr
namespace Go.Proofs.Ytndckncoipkhaaa
open Go.RowKit

theorem lies_bools (W : World) (t : TypeId) : Lies (W.alloc (.cells #[.bool true, .bool true, .bool true] t)) (some ⟨W.heap.size, 0, none⟩) (boolCells [true, true, true]) := fun _ => by
  refine ⟨W.heap.size, 0, rfl, by simp, fun j v hj => ?_⟩
  rw [Nat.zero_add, World.cell?_alloc_mark]
  rcases j with _ | _ | _ | j
  · exact hj
  · exact hj
  · exact hj
  · simp [boolCells] at hj
theorem texts3_small (l : List UInt8) (hl : l.length ≤ 128) : ∀ s ∈ Cut.texts3 l, s.size ≤ maxLen := fun s hs => by
  obtain ⟨j, hj, rfl⟩ := List.getElem_of_mem hs
  have h3 : j < 3 := hj
  have := texts3_at l j h3
  rw [List.getElem?_eq_getElem hj] at this
  injection this with this
  rw [this]
  exact Nat.le_trans (colT_size l _ hl) (by decide)

set_option maxRecDepth 100000 in
set_option maxHeartbeats 4000000 in
theorem spec_rwrite (A : Option Addr) (cap : Nat) (ps : List RD) (n : Int) (t : ByteArray) (w : World) (hn : ps.length ≤ 1048576) (hf : ∀ p ∈ ps, Bulk p.d) (hA : RAt w A ps) (ht : t.size ≤ maxLen) :
    Calls Try.prog 20 #[.agg #[.slice A ps.length cap], .int .i64 n, .string t] w (RPostK2 (writeR (dks ps) n t).1 (writeR (dks ps) n t).2 w) := by
  have bl : Below w.heap.size w ((w.alloc (.cells #[.slice A ps.length cap] 24)).alloc (.cells #[.slice none 0 0] 24)) := bel_new (bel_new (Below.refl _ _) _) _
  have b0 := (B1.new w 24 (.slice A ps.length cap)).alloc (.cells #[.slice none 0 0] 24)
  have b1 := B1.new (w.alloc (.cells #[.slice A ps.length cap] 24)) 24 (.slice none 0 0)
  rw [World.size_alloc] at b1
  have hH := spec_rok A cap ps _ hn hf (hA.below bl)
  have hRo := fun W => row47 n W
  have hBl := fun W => Cut.l2_block t W ht
  by_cases hok : RsOk (dks ps)
  · rw [okR_yes hok] at hH
    have h3 : Hid (ps.length = 3) := Lib.hid (by have := hok.1; rwa [dks_len] at this)
    by_cases hrow : Cut.inB n 8 63 = true
    · simp only [hrow] at hRo
      by_cases hbl : Cut.blockB t = true
      · simp only [hbl] at hBl
        have HOK := Lib.hid hok
        have HROW := Lib.hid hrow
        have HBL := Lib.hid hbl
        have hR := fun W (hW : Below w.heap.size w W) => spec_rcopy A cap ps W hn hf (hA.below hW)
        have hCt := fun W => Cut.l4_cut t W ((block_iff t).1 hbl).2
        clear hf hA hok hrow hbl
        go_enter Try.func20, Try.ntmps20
        go_wp2_with (go_at_call 17; refine hH.mono ?_; rintro r w2 ⟨rfl, hb2⟩; refine Hid.out ?_)
        refine Lib.hid ?_
        have c0 := b0.below hb2
        have c1 := b1.below hb2
        have BB := bel_then bl hb2
        clear hH hb2 b0 b1 bl
        obtain ⟨x0, _⟩ := c0.cells
        go_wp2_with (go_at_call 47; refine (hRo _).mono ?_; rintro r w2' ⟨rfl, hww⟩; obtain rfl := hww.symm; refine Hid.out ?_)
        refine Lib.hid ?_
        go_wp2_with (go_at_call 48; refine (hBl _).mono ?_; rintro r w2' ⟨rfl, hww⟩; obtain rfl := hww.symm; refine Hid.out ?_)
        refine Lib.hid ?_
        clear hRo hBl
        have L := hR _ BB
        have s2 : w.heap.size + 1 < w2.heap.size := c1.lt
        clear hR
        go_wp2_with (go_at_call 50; refine L.mono ?_; rintro r w3 ⟨qs, A2, c2, rfl, hq, ho, hb3⟩; refine Hid.out ?_)
        refine Lib.hid ?_
        have c3 := c1.below hb3
        have s3 := hb3.size
        have BB := bel_then BB hb3
        have hql := dks_same hq
        obtain ⟨g, rfl, hg, hgb⟩ := own_goneAt ho.1 (by rw [hql, h3.out]; decide)
        clear L x0 c0 c1 hb3
        have hts : ∀ s ∈ Cut.texts3 t.data.toList, s.size ≤ maxLen := texts3_small _ (by have := ((block_iff t).1 HBL.out).2; exact this)
        obtain ⟨cs, hcs⟩ : ∃ cs, cs = Cut.texts3 t.data.toList := ⟨_, rfl⟩
        have hcl3 : cs.length = 3 := by rw [hcs]; rfl
        rw [← hcs] at hts hCt
        have HCS := Lib.hid hcs
        have HCL := Lib.hid hcl3
        have HQ := Lib.hid hq
        have HQL := Lib.hid hql
        clear hcs hcl3 hq hql
        go_wp2_with (go_at_call 51; refine (hCt _).mono ?_; rintro r w4 ⟨C, cc, rfl, oC, hb4⟩; refine Hid.out ?_)
        refine Lib.hid ?_
        have c4 := c3.below hb4
        have s4 := hb4.size
        have BB := bel_then BB hb4
        have ho := ho.below hb4
        have oC : w4.ownsRow w3.heap.size 9 1 (.slice C cs.length cc) cs.length (strCells cs) := oC
        obtain ⟨gC, rfl⟩ := own_addr oC (by rw [HCL.out]; decide)
        have hgC := (oC.lt gC rfl).1
        obtain ⟨A', c', ee, hlC⟩ := own_lies oC
        cases ee
        clear hb4 c3 hCt
        have b5 := bel_new (Below.refl w4.heap.size w4) (.cells #[.bool true, .bool true, .bool true] 4)
        have hS := spec_put w2.heap.size g c2 qs n (some ⟨gC, 0, none⟩) (some ⟨w4.heap.size, 0, none⟩) cc 3 cs [true, true, true] (w4.alloc (.cells #[.bool true, .bool true, .bool true] 4)) (by rw [HQL.out]; exact hn) (rs_each HOK.out.2 HQ.out) (by rw [World.size_alloc]; omega) (ho.below b5) (by rw [HCL.out, HQL.out, h3.out]) (by rw [HQL.out, h3.out]; rfl) hts (hlC.below b5) (lies_bools w4 4) (fun b o e => by cases e; omega) (fun b o e => by cases e; omega)
        have c5 := c4.below b5
        have BB := bel_then BB b5
        have s5 : w.heap.size ≤ w2.heap.size := by omega
        rw [HQ.out] at hS
        clear b5 ho oC hlC c4 hts
        by_cases hput : PutOk (dks ps) n cs [true, true, true]
        · have hW : GoodW (dks ps) n t := ⟨HOK.out, HROW.out, HBL.out, by rw [← HCS.out]; exact hput⟩
          have hPO := Lib.hid hput
          have hWR : Hid (writeR (dks ps) n t = (putL (dks ps) n cs [true, true, true], true)) := Lib.hid (by rw [writeR_yes hW, HCS.out])
          obtain ⟨X, hX⟩ : ∃ X, X = putL (dks ps) n cs [true, true, true] := ⟨_, rfl⟩
          have L2 : Calls Try.prog 49 #[.agg #[.slice (some ⟨g, 0, none⟩) qs.length c2], .int .i64 n, .slice (some ⟨gC, 0, none⟩) cs.length cc, .slice (some ⟨w4.heap.size, 0, none⟩) 3 3] (w4.alloc (.cells #[.bool true, .bool true, .bool true] 4)) fun r w' => ∃ (cur : List RD) (A : Option Addr) (c : Nat), r = .returned (.tuple #[.agg #[.slice A cur.length c], .bool true]) ∧ dks cur = X ∧ RKeep w' w2.heap.size w'.heap.size (.slice A cur.length c) cur ∧ Below w2.heap.size (w4.alloc (.cells #[.bool true, .bool true, .bool true] 4)) w' := hS.mono fun r w' hh => by
            rcases hh with ⟨_, cur, A, c, e, hd, h1, h2⟩ | ⟨h0, _⟩
            · exact ⟨cur, A, c, e, by rw [hd, hX], h1, h2⟩
            · exact absurd hput h0
          have hWX : Hid (writeR (dks ps) n t = (X, true)) := Lib.hid (by rw [hWR.out, hX])
          clear hput hW hS hWR hX
          go_wp2_with (go_at_call 49; refine L2.mono ?_; rintro r w6 ⟨cur, A6, c6, rfl, hd, hk, hb6⟩; refine Hid.out ?_)
          refine Lib.hid ?_
          have c7 := c5.belowB hb6 s2
          obtain ⟨y0, f0⟩ := c7.cells
          have HDD := Lib.hid hd
          clear hd
          go_wp2_with fail
          exact bodyPost_ret (v := .tuple #[.agg #[.slice A6 cur.length c6], .bool true]) (by simp [results, Try.f20, go_sem, y0]) rfl (by rw [hWX.out]; exact ⟨cur, A6, c6, rfl, HDD.out, (hk.set (p := ⟨w.heap.size + 1, 0, none⟩) s2 _).wide s5 (Nat.le_of_eq (size_put _ _ _).symm), (BB.trans (hb6.mono s5)).setCell (p := ⟨w.heap.size + 1, 0, none⟩) (Nat.le_succ _) _⟩)
        · have hWR : Hid (writeR (dks ps) n t = ([], false)) := Lib.hid (writeR_no (fun h => hput (by rw [HCS.out]; exact h.2.2.2)))
          have L2 : Calls Try.prog 49 #[.agg #[.slice (some ⟨g, 0, none⟩) qs.length c2], .int .i64 n, .slice (some ⟨gC, 0, none⟩) cs.length cc, .slice (some ⟨w4.heap.size, 0, none⟩) 3 3] (w4.alloc (.cells #[.bool true, .bool true, .bool true] 4)) fun r w' => r = .returned (.tuple #[.agg #[.slice none 0 0], .bool false]) ∧ Below w2.heap.size (w4.alloc (.cells #[.bool true, .bool true, .bool true] 4)) w' := hS.mono fun r w' hh => by
            rcases hh with ⟨h0, _⟩ | ⟨_, e, hb⟩
            · exact absurd h0 hput
            · exact ⟨e, hb⟩
          clear hput hS
          go_wp2_with (go_at_call 49; refine L2.mono ?_; rintro r w6 ⟨rfl, hb6⟩; refine Hid.out ?_)
          refine Lib.hid ?_
          have c7 := c5.belowB hb6 s2
          obtain ⟨y0, f0⟩ := c7.cells
          go_wp2_with fail
          exact bodyPost_ret (v := .tuple #[.agg #[.slice none 0 0], .bool false]) (by simp [results, Try.f20, go_sem, y0]) rfl (by rw [hWR.out]; exact ⟨[], none, 0, rfl, rfl, RKeep.none _ _ _, (BB.trans (hb6.mono s5)).setCell (p := ⟨w.heap.size + 1, 0, none⟩) (Nat.le_succ _) _⟩)
      · have hbf : Cut.blockB t = false := by simpa using hbl
        rw [writeR_no (fun h => hbl h.2.2.1)]
        simp only [hbf] at hBl
        clear hf hA hok hrow hbl hbf h3
        go_enter Try.func20, Try.ntmps20
        go_wp2_with (go_at_call 17; refine hH.mono ?_; rintro r w2 ⟨rfl, hb2⟩; refine Hid.out ?_)
        refine Lib.hid ?_
        have c1 := b1.below hb2
        have BB := bel_then bl hb2
        clear hH hb2 b0 b1 bl
        obtain ⟨y0, f0⟩ := c1.cells
        go_wp2_with (go_at_call 47; refine (hRo _).mono ?_; rintro r w2' ⟨rfl, hww⟩; obtain rfl := hww.symm; refine Hid.out ?_)
        refine Lib.hid ?_
        go_wp2_with (go_at_call 48; refine (hBl _).mono ?_; rintro r w2' ⟨rfl, hww⟩; obtain rfl := hww.symm)
        exact bodyPost_ret (v := .tuple #[.agg #[.slice none 0 0], .bool false]) (by simp [results, Try.f20, go_sem, y0]) rfl ⟨[], none, 0, rfl, rfl, RKeep.none _ _ _, BB.setCell (p := ⟨w.heap.size + 1, 0, none⟩) (Nat.le_succ _) _⟩
    · have hrf : Cut.inB n 8 63 = false := by simpa using hrow
      rw [writeR_no (fun h => hrow h.2.1)]
      simp only [hrf] at hRo
      clear hf hA hok hrow hrf hBl h3
      go_enter Try.func20, Try.ntmps20
      go_wp2_with (go_at_call 17; refine hH.mono ?_; rintro r w2 ⟨rfl, hb2⟩; refine Hid.out ?_)
      refine Lib.hid ?_
      have c1 := b1.below hb2
      have BB := bel_then bl hb2
      clear hH hb2 b0 b1 bl
      obtain ⟨y0, f0⟩ := c1.cells
      go_wp2_with (go_at_call 47; refine (hRo _).mono ?_; rintro r w2' ⟨rfl, hww⟩; obtain rfl := hww.symm)
      exact bodyPost_ret (v := .tuple #[.agg #[.slice none 0 0], .bool false]) (by simp [results, Try.f20, go_sem, y0]) rfl ⟨[], none, 0, rfl, rfl, RKeep.none _ _ _, BB.setCell (p := ⟨w.heap.size + 1, 0, none⟩) (Nat.le_succ _) _⟩
  · rw [okR_no hok] at hH
    rw [writeR_no (fun h => hok h.1)]
    clear hok hf hA hRo hBl
    go_enter Try.func20, Try.ntmps20
    go_wp2_with (go_at_call 17; refine hH.mono ?_; rintro r w2 ⟨rfl, hb2⟩; obtain ⟨y0, f0⟩ := (b1.below hb2).cells)
    exact bodyPost_ret (v := .tuple #[.agg #[.slice none 0 0], .bool false]) (by simp [results, Try.f20, go_sem, y0]) rfl ⟨[], none, 0, rfl, rfl, RKeep.none _ _ _, (bel_then bl hb2).setCell (p := ⟨w.heap.size + 1, 0, none⟩) (Nat.le_succ _) _⟩
end Go.Proofs.Ytndckncoipkhaaa
