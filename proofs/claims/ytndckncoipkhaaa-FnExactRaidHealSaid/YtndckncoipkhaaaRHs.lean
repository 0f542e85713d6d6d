/-
  RaidHeal, as the reference does: of disks that are a copy.
-/
import Derived.Test.YtndckncoipkhaaaRPg
import Derived.Test.YtndckncoipkhaaaRHi
import Derived.Test.YtndckncoipkhaaaRRd
import Derived.Test.YtndckncoipkhaaaRWz
namespace Go.Proofs.Ytndckncoipkhaaa
open Go.RowKit

theorem lies_bool1 (W : World) (v : Bool) : Lies (W.alloc (.cells #[.bool v] 4)) (some ⟨W.heap.size, 0, none⟩) (boolCells [v]) := fun _ => by
  refine ⟨W.heap.size, 0, rfl, by simp, fun j x hj => ?_⟩
  rw [Nat.zero_add, World.cell?_alloc_mark]
  rcases j with _ | j
  · exact hj
  · simp [boolCells] at hj
theorem boolCells_snoc (bs : List Bool) (v : Bool) : boolCells (bs ++ [v]) = boolCells bs ++ boolCells [v] := by simp [boolCells]
theorem boolCells_one' (bs : List Bool) : ∀ u ∈ boolCells bs, u.oneCell' = true := fun u hu => by
  obtain ⟨b, _, rfl⟩ := List.mem_map.1 hu
  rfl
theorem Try.info4q : (Try.prog.info? 4).map (fun i => (i.zero, i.size, i.bytes)) = some (some (.bool false), 1, 1) := by kernel_rfl
theorem Hp5.grown {W W' : World} {g : Nat} {a b c d e : Int} {r : Option Nat} (h : Hp5 g a b c d e W) (hg : W.grownBy W' r) (hr : some g ≠ r) : Hp5 g a b c d e W' := by
  obtain ⟨h0, h1, h2, h3, h4, hl, hx⟩ := h
  have hb := hg.block g hl hr
  exact ⟨(World.cell?_of_block (a := ⟨g, 0, none⟩) hb).trans h0, (World.cell?_of_block (a := ⟨g, 1, none⟩) hb).trans h1, (World.cell?_of_block (a := ⟨g, 2, none⟩) hb).trans h2, (World.cell?_of_block (a := ⟨g, 3, none⟩) hb).trans h3, (World.cell?_of_block (a := ⟨g, 4, none⟩) hb).trans h4, Nat.lt_of_lt_of_le hl hg.size, hx⟩
def H62 (base : Nat) (R : List Dk) (a b c d e : Int) (w : World) (r : Ending) (w' : World) : Prop :=
  (GoodH R a b c d e ∧ ∃ (cur : List RD) (A : Option Addr) (k : Nat), r = .returned (.tuple #[.agg #[.slice A cur.length k], .int .i64 ((cntV (needs R a (wantR R a b c d e)) 3 : Nat) : Int), .bool true]) ∧ dks cur = putL R a (wantR R a b c d e) (needs R a (wantR R a b c d e)) ∧ RKeep w' base w'.heap.size (.slice A cur.length k) cur ∧ Below base w w')
  ∨ (¬ GoodH R a b c d e ∧ r = .returned (.tuple #[.agg #[.slice none 0 0], .int .i64 0, .bool false]) ∧ Below base w w')

set_option maxRecDepth 100000 in
set_option maxHeartbeats 8000000 in
theorem spec_h62 (base g cap : Nat) (ps : List RD) (a b c d e : Int) (w : World) (hok : RsOk (dks ps)) (hf : ∀ p ∈ ps, Bulk p.d) (hbase : base ≤ w.heap.size) (hA : ROwn w base (.slice (some ⟨g, 0, none⟩) ps.length cap) ps) (hg : PtrGo a b c d e) :
    Calls Try.prog 62 #[.agg #[.slice (some ⟨g, 0, none⟩) ps.length cap], .agg #[.int .i64 a, .int .i64 b, .int .i64 c, .int .i64 d, .int .i64 e]] w (H62 base (dks ps) a b c d e w) := by
  have bl : Below w.heap.size w (((w.alloc (.cells #[.slice (some ⟨g, 0, none⟩) ps.length cap] 24)).alloc (.cells #[.int .i64 a, .int .i64 b, .int .i64 c, .int .i64 d, .int .i64 e] 43)).alloc (.cells #[.slice none 0 0] 24)) := bel_new (bel_new (bel_new (Below.refl _ _) _) _) _
  have b0 := ((B1.new w 24 (.slice (some ⟨g, 0, none⟩) ps.length cap)).alloc (.cells #[.int .i64 a, .int .i64 b, .int .i64 c, .int .i64 d, .int .i64 e] 43)).alloc (.cells #[.slice none 0 0] 24)
  have hP0 := Cut.HP.new (w.alloc (.cells #[.slice (some ⟨g, 0, none⟩) ps.length cap] 24)) a b c d e 43
  have hP : Hp5 (w.heap.size + 1) a b c d e (((w.alloc (.cells #[.slice (some ⟨g, 0, none⟩) ps.length cap] 24)).alloc (.cells #[.int .i64 a, .int .i64 b, .int .i64 c, .int .i64 d, .int .i64 e] 43)).alloc (.cells #[.slice none 0 0] 24)) := by
    unfold Cut.HP at hP0
    rw [World.size_alloc] at hP0
    have h1 : Hp5 (w.heap.size + 1) a b c d e ((w.alloc (.cells #[.slice (some ⟨g, 0, none⟩) ps.length cap] 24)).alloc (.cells #[.int .i64 a, .int .i64 b, .int .i64 c, .int .i64 d, .int .i64 e] 43)) := ⟨hP0.1, hP0.2.1, hP0.2.2.1, hP0.2.2.2.1, hP0.2.2.2.2.1, hP0.2.2.2.2.2.1, trivial⟩
    exact h1.next (bel_new (Below.refl _ _) _)
  have b1 := B1.new ((w.alloc (.cells #[.slice (some ⟨g, 0, none⟩) ps.length cap] 24)).alloc (.cells #[.int .i64 a, .int .i64 b, .int .i64 c, .int .i64 d, .int .i64 e] 43)) 24 (.slice none 0 0)
  simp only [World.size_alloc] at b1
  clear hP0
  have hAt : RAt w (some ⟨g, 0, none⟩) ps := hA.at_
  have hgw : g < w.heap.size := (hA.1.lt g rfl).2
  obtain ⟨hb1, hb2⟩ := hg.bounds
  have h3 : ps.length = 3 := by have := hok.1; rwa [dks_len] at this
  have hS : ∀ W, Below w.heap.size w W → Calls Try.prog 58 #[.agg #[.slice (some ⟨g, 0, none⟩) ps.length cap], .agg #[.int .i64 a, .int .i64 b, .int .i64 c, .int .i64 d, .int .i64 e]] W (ReadPost (readR (dks ps) a b c d e) W) := fun W hW => by
    rw [readR_yes hok hg]
    match ps, h3, hok, hf, hAt with
    | [p0, p1, p2], _, hok, hf, hAt => exact spec_read _ cap p0 p1 p2 a b c d e W hok hf (hAt.below hW) hb1 hb2
  unfold ReadPost at hS
  cases hr : (readR (dks ps) a b c d e).2 with
  | false =>
    have hno : ¬ GoodH (dks ps) a b c d e := fun h => by have := h.1; rw [hr] at this; cases this
    simp only [hr] at hS
    have HNO := Lib.hid hno
    have L := hS _ bl
    clear hok hf hA hg hb1 hb2 h3 hr hno hAt hS
    go_enter Try.func62, Try.ntmps62
    go_wp2_with (go_at_call 58; refine L.mono ?_; rintro r w2 ⟨rfl, hb2⟩; obtain ⟨y0, f0⟩ := (b1.below hb2).cells)
    exact bodyPost_ret (v := .tuple #[.agg #[.slice none 0 0], .int .i64 0, .bool false]) (by simp [results, Try.f62, go_sem, y0]) rfl (.inr ⟨HNO.out, rfl, ((bel_then bl hb2).mono hbase).setCell (p := ⟨w.heap.size + 1 + 1, 0, none⟩) (by show base ≤ w.heap.size + 1 + 1; omega) _⟩)
  | true =>
    obtain ⟨_, _, hsz⟩ := read_yes hr
    obtain ⟨n, hna⟩ : ∃ n : Nat, a = (n : Int) := ⟨a.toNat, by omega⟩
    subst hna
    have hn63 : n ≤ 63 := by omega
    have HR := Lib.hid hr
    simp only [hr] at hS
    obtain ⟨t, ht⟩ : ∃ t, t = (readR (dks ps) n b c d e).1 := ⟨_, rfl⟩
    have hcs : Cut.texts3 t.data.toList = wantR (dks ps) n b c d e := by rw [ht]; rfl
    simp only [← ht] at hS hsz
    have hCt := fun W => Cut.l4_cut t W hsz
    have hCo := fun W (hW : Below w.heap.size w W) => spec_cols (some ⟨g, 0, none⟩) cap ps (n : Int) W hok hf (hAt.below hW) ⟨by omega, by omega⟩
    have hts : ∀ s ∈ Cut.texts3 t.data.toList, s.size ≤ maxLen := texts3_small _ (by exact hsz)
    obtain ⟨l, hl⟩ : ∃ l, l = t.data.toList := ⟨_, rfl⟩
    obtain ⟨cs, hcs2⟩ : ∃ cs, cs = wantR (dks ps) n b c d e := ⟨_, rfl⟩
    rw [hcs, ← hcs2] at hts
    have hct : cs = Cut.texts3 l := by rw [hcs2, ← hcs, hl]
    simp only [hcs, ← hcs2] at hCt
    have hcl3 : cs.length = 3 := by rw [hct]; rfl
    obtain ⟨V, hV⟩ : ∃ V, V = needs (dks ps) n cs := ⟨_, rfl⟩
    have hVK : ∀ (k : Nat) (h : k < ps.length), V[k]? = some (needB ps[k].d n (cs.getD k none8)) := fun k h => by
      rw [hV, needs_at _ _ _ k (by omega), dks_getD h]
    have hVl : V.length = 3 := by rw [hV, needs_len]
    have HGH : Hid (GoodH (dks ps) n b c d e ↔ PutOk (dks ps) n cs V) := Lib.hid (by rw [hV, hcs2]; exact ⟨fun h => h.2, fun h => ⟨hr, h⟩⟩)
    have HWR := Lib.hid hcs2
    have HV := Lib.hid hV
    have HVK := Lib.hid hVK
    have HVL := Lib.hid hVl
    have HCL := Lib.hid hcl3
    have H3 := Lib.hid h3
    have HOK := Lib.hid hok
    have HA := Lib.hid hA
    have L := hS _ bl
    have hnl : ps.length ≤ 1048576 := by omega
    clear hok hA hg hb1 hb2 hr ht hcs hcs2 hct hcl3 hV hVK hVl hS h3 hl
    go_enter Try.func62, Try.ntmps62
    go_wp2_with (go_at_call 58; refine L.mono ?_; rintro r w2 ⟨rfl, hb2⟩; refine Hid.out ?_)
    refine Lib.hid ?_
    have b0 := b0.below hb2
    have b1 := b1.below hb2
    have hP := hP.next hb2
    have BB := bel_then bl hb2
    have s2 := BB.size
    clear L hb2 bl
    go_wp2_with (go_at_call 51; refine (hCt _).mono ?_; rintro r w4 ⟨C, cc, rfl, oC, hb4⟩; refine Hid.out ?_)
    refine Lib.hid ?_
    have oC : w4.ownsRow w2.heap.size 9 1 (.slice C cs.length cc) cs.length (strCells cs) := oC
    have b0 := b0.below hb4
    have b1 := b1.below hb4
    have hP := hP.next hb4
    have BB := bel_then BB hb4
    have s4 := hb4.size
    have L := hCo _ BB
    obtain ⟨gC, rfl⟩ := own_addr oC (by rw [HCL.out]; decide)
    have hgC := (oC.lt gC rfl)
    obtain ⟨A', c', ee, hlC⟩ := own_lies oC
    cases ee
    clear hCt hCo hb4 oC
    obtain ⟨x0, _⟩ := b0.cells
    obtain ⟨q0, q1, q2, q3, q4, hpl, _⟩ := id hP
    go_wp2_with (go_at_call 94; refine L.mono ?_; rintro r w5 ⟨ys, Y, yc, rfl, hyl, hcols, oY, hb5⟩; refine Hid.out ?_)
    refine Lib.hid ?_
    have b0 := b0.below hb5
    have b1 := b1.below hb5
    have hP := hP.next hb5
    have BB := bel_then BB hb5
    have s5 := hb5.size
    have hlC := hlC.below hb5
    obtain ⟨Y', yc', ee, hlY⟩ := own_lies oY
    cases ee
    have HYL := Lib.hid hyl
    have HCO := Lib.hid hcols
    clear L hb5 oY hyl hcols x0 q0 q1 q2 q3 q4 hpl
    obtain ⟨i0, hi, hz0, hz1, hz2⟩ := info_parts Try.info4q
    have o0 := World.ownsRow_made (e := 4) (base := w5.heap.size) w5 (size := 1) #[] 0 (Nat.le_refl _) (by decide) rfl
    have b0n := b0.alloc (.cells #[] 4)
    have b1n := b1.alloc (.cells #[] 4)
    have hPn := hP.next (bel_new (Below.refl w5.heap.size w5) (.cells #[] 4))
    have Bn := bel_new (Below.refl w5.heap.size w5) (.cells #[] 4)
    have hsw5 : w.heap.size + 2 < w5.heap.size := by have := b1.lt; omega
    go_wp2_with fail
    go_loopw [11, 12, 13, 14] (fun bad nn i _ wr => ∃ (k : Nat) (bs : List Bool) (Z : Option Addr) (zc : Nat), k ≤ 3 ∧ bs = V.take k ∧ i = .int .i64 k ∧ nn = .int .i64 ((cntV V k : Nat) : Int) ∧ bad = .slice Z bs.length zc ∧ wr.ownsRow w5.heap.size 4 1 (.slice Z bs.length zc) bs.length (boolCells bs) ∧ B1 wr w.heap.size 24 (.slice (some ⟨g, 0, none⟩) ps.length cap) ∧ B1 wr (w.heap.size + 1 + 1) 24 (.slice none 0 0) ∧ Hp5 (w.heap.size + 1) n b c d e wr ∧ Below w5.heap.size w5 wr) (fun _ _ i _ _ => 3 - (intOf i).toNat)
    case atStart => exact ⟨0, [], some ⟨w5.heap.size, 0, none⟩, 0, by omega, by simp, rfl, by rw [cntV_zero]; rfl, rfl, o0, b0n, b1n, hPn, Bn⟩
    case round =>
      clear o0 b0n b1n hPn Bn
      obtain ⟨k, bs, Z, zc, hk, hbs, rfl, rfl, rfl, ho, c0, c1, hQ, BL⟩ := hrel
      have HBS := Lib.hid hbs
      clear hbs
      have BW := bel_then BB BL
      have hxl := c0.lt
      have hwr := BL.size
      by_cases hlt : k < 3
      · have hkp : k < ps.length := by have := H3.out; omega
        have hki : (k : Int) < (cs.length : Int) := by have := HCL.out; omega
        have hkp2 : (k : Int) < (ps.length : Int) := by omega
        have hky : (k : Int) < (ys.length : Int) := by have := HYL.out; omega
        have hyk : k < ys.length := by omega
        have hck : k < cs.length := by omega
        obtain ⟨bb, off, he, hlb, z0, z1, z2, hd⟩ := (hAt.below BW).cell k hkp
        cases he
        simp only [Nat.zero_add] at z0 z1 z2
        obtain ⟨bc, oc, he, hlc, zc0⟩ := (hlC.below BL).str k hck
        cases he
        simp only [Nat.zero_add] at zc0
        obtain ⟨by_, oy, rfl, hly, zy0⟩ := (hlY.below BL).str k hyk
        have hcol := HCO.out k hkp hyk
        have hvk := HVK.out k hkp
        obtain ⟨P, hP'⟩ : ∃ P, P = ps[k] := ⟨_, rfl⟩
        rw [← hP'] at z0 z1 z2 hcol hvk
        obtain ⟨y, hy⟩ : ∃ y, y = ys[k] := ⟨_, rfl⟩
        rw [← hy] at zy0 hcol
        obtain ⟨tx, htx⟩ : ∃ tx, tx = cs[k] := ⟨_, rfl⟩
        rw [← htx] at zc0
        rw [show cs.getD k none8 = tx by rw [List.getD_eq_getElem?_getD, List.getElem?_eq_getElem hck, Option.getD_some, htx]] at hvk
        have hbl : bs.length ≤ 1048576 := by have := HBS.out; subst this; rw [List.length_take]; omega
        have hx0 := c0.cells.1
        have htake : ∀ v, V[k]? = some v → V.take (k + 1) = V.take k ++ [v] := fun v hv => by rw [List.take_add_one, hv]; rfl
        have HTK := Lib.hid htake
        have hcn3 : (cntV V k : Int) ≤ 1048576 := by
          have : cntV V k ≤ V.length := Nat.le_trans (List.length_filter_le _ _) (by rw [List.length_take]; exact Nat.min_le_right _ _)
          have := HVL.out
          omega
        have HVQ := Lib.hid hvk
        have HCQ := Lib.hid hcol
        clear hP' hy htx hvk hcol hd htake
        by_cases hgo : P.d.gone = true
        · have HN : Hid (V[k]? = some false) := Lib.hid (HVQ.out.trans (by rw [show needB P.d n tx = false by unfold needB; rw [hgo]; rfl]))
          rw [hgo] at z2
          clear hgo
          have HC := Lib.hid (cntV_no HN.out)
          have HT := Lib.hid (HTK.out _ HN.out)
          go_wp2_with fail
          go_quiet (fail)
          have BD := below_drewN (Below.refl wr.heap.size wr) nq
          have h2b := (own_bel ho BD).alloc (.cells #[.bool false] 4)
          have c0' := (c0.below BD).alloc (.cells #[.bool false] 4)
          have c1' := (c1.below BD).alloc (.cells #[.bool false] 4)
          have hQ' := hQ.next (bel_new BD (.cells #[.bool false] 4))
          have B7 := bel_new (bel_then BL BD) (.cells #[.bool false] 4)
          go_wp2_with (at_builtin; refine wpList_append_lies2 _ rfl _ _ 73 rfl w5.heap.size 4 i0 (.bool false) 1 1 Try.underlying73 hi hz0 hz1 hz2 rfl (by decide) _ _ _ rfl h2b (some ⟨wr.heap.size, 0, none⟩) 1 1 (boolCells [false]) rfl rfl (lies_bool1 _ _) (boolCells_one' _) (by unfold maxLen; omega) (by omega) (by simp; omega) ?_; intro v5 w6 o5 g5; refine Hid.out ?_)
          refine Lib.hid ?_
          have g5 : ((wr.drewN nq).alloc (.cells #[.bool false] 4)).grownBy w6 (Value.slice Z bs.length zc).ownBlock := g5
          rw [← boolCells_snoc, show bs.length + 1 = (bs ++ [false]).length by simp] at o5
          obtain ⟨Z5, z5, rfl, _⟩ := own_lies o5
          have ne0 : some w.heap.size ≠ (Value.slice Z bs.length zc).ownBlock := fun e => by have := (h2b.lt _ e.symm).1; omega
          have ne1 : some (w.heap.size + 1) ≠ (Value.slice Z bs.length zc).ownBlock := fun e => by have := (h2b.lt _ e.symm).1; omega
          have ne2 : some (w.heap.size + 1 + 1) ≠ (Value.slice Z bs.length zc).ownBlock := fun e => by have := (h2b.lt _ e.symm).1; omega
          have C0 := Lib.hid ((g5.block w.heap.size c0'.lt ne0).trans c0')
          have C1 := Lib.hid ((g5.block (w.heap.size + 1 + 1) c1'.lt ne2).trans c1')
          have Q6 := Lib.hid (hQ'.grown g5 ne1)
          have B6 := Lib.hid (B7.grown g5 (by simp; omega) (fun b e => by have := (h2b.lt b e).1; omega))
          have HO5 := Lib.hid o5
          have HBS2 : Hid (bs ++ [false] = V.take (k + 1)) := Lib.hid (by rw [HT.out, HBS.out])
          clear o5 g5 h2b c0' c1' hQ' B7 BD ne0 ne1 ne2
          go_wp2_with fail
          go_roundw
          case rel => exact ⟨k + 1, bs ++ [false], Z5, z5, by omega, HBS2.out, by go_num, by rw [HC.out], rfl, HO5.out, C0.out, C1.out, Q6.out, B6.out⟩
          case measure => simp [intOf]; omega
        · have hg0 : P.d.gone = false := by simpa using hgo
          have hyl : y = latest P.d n := HCQ.out.1 (by rw [hg0]; rfl)
          rw [hg0] at z2
          cases hnd : (y.toList == tx.toList) with
          | true =>
            have HN : Hid (V[k]? = some false) := Lib.hid (HVQ.out.trans (by rw [show needB P.d n tx = false by unfold needB needT; rw [hg0, ← hyl, hnd]; rfl]))
            clear hgo hg0 hyl
            have HC := Lib.hid (cntV_no HN.out)
            have HT := Lib.hid (HTK.out _ HN.out)
            go_wp2_with fail
            go_quiet (fail)
            have BD := below_drewN (Below.refl wr.heap.size wr) nq
            have h2b := (own_bel ho BD).alloc (.cells #[.bool false] 4)
            have c0' := (c0.below BD).alloc (.cells #[.bool false] 4)
            have c1' := (c1.below BD).alloc (.cells #[.bool false] 4)
            have hQ' := hQ.next (bel_new BD (.cells #[.bool false] 4))
            have B7 := bel_new (bel_then BL BD) (.cells #[.bool false] 4)
            go_wp2_with (at_builtin; refine wpList_append_lies2 _ rfl _ _ 73 rfl w5.heap.size 4 i0 (.bool false) 1 1 Try.underlying73 hi hz0 hz1 hz2 rfl (by decide) _ _ _ rfl h2b (some ⟨wr.heap.size, 0, none⟩) 1 1 (boolCells [false]) rfl rfl (lies_bool1 _ _) (boolCells_one' _) (by unfold maxLen; omega) (by omega) (by simp; omega) ?_; intro v5 w6 o5 g5; refine Hid.out ?_)
            refine Lib.hid ?_
            have g5 : ((wr.drewN nq).alloc (.cells #[.bool false] 4)).grownBy w6 (Value.slice Z bs.length zc).ownBlock := g5
            rw [← boolCells_snoc, show bs.length + 1 = (bs ++ [false]).length by simp] at o5
            obtain ⟨Z5, z5, rfl, _⟩ := own_lies o5
            have ne0 : some w.heap.size ≠ (Value.slice Z bs.length zc).ownBlock := fun e => by have := (h2b.lt _ e.symm).1; omega
            have ne1 : some (w.heap.size + 1) ≠ (Value.slice Z bs.length zc).ownBlock := fun e => by have := (h2b.lt _ e.symm).1; omega
            have ne2 : some (w.heap.size + 1 + 1) ≠ (Value.slice Z bs.length zc).ownBlock := fun e => by have := (h2b.lt _ e.symm).1; omega
            have C0 := Lib.hid ((g5.block w.heap.size c0'.lt ne0).trans c0')
            have C1 := Lib.hid ((g5.block (w.heap.size + 1 + 1) c1'.lt ne2).trans c1')
            have Q6 := Lib.hid (hQ'.grown g5 ne1)
            have B6 := Lib.hid (B7.grown g5 (by simp; omega) (fun b e => by have := (h2b.lt b e).1; omega))
            have HO5 := Lib.hid o5
            have HBS2 : Hid (bs ++ [false] = V.take (k + 1)) := Lib.hid (by rw [HT.out, HBS.out])
            clear o5 g5 h2b c0' c1' hQ' B7 BD ne0 ne1 ne2
            go_wp2_with fail
            go_roundw
            case rel => exact ⟨k + 1, bs ++ [false], Z5, z5, by omega, HBS2.out, by go_num, by rw [HC.out], rfl, HO5.out, C0.out, C1.out, Q6.out, B6.out⟩
            case measure => simp [intOf]; omega
          | false =>
            have HN : Hid (V[k]? = some true) := Lib.hid (HVQ.out.trans (by rw [show needB P.d n tx = true by unfold needB needT; rw [hg0, ← hyl, hnd]; rfl]))
            clear hgo hg0 hyl
            have HC := Lib.hid (cntV_yes HN.out)
            have HT := Lib.hid (HTK.out _ HN.out)
            go_wp2_with fail
            go_quiet (fail)
            have BD := below_drewN (Below.refl wr.heap.size wr) nq
            have h2b := (own_bel ho BD).alloc (.cells #[.bool true] 4)
            have c0' := (c0.below BD).alloc (.cells #[.bool true] 4)
            have c1' := (c1.below BD).alloc (.cells #[.bool true] 4)
            have hQ' := hQ.next (bel_new BD (.cells #[.bool true] 4))
            have B7 := bel_new (bel_then BL BD) (.cells #[.bool true] 4)
            go_wp2_with (at_builtin; refine wpList_append_lies2 _ rfl _ _ 73 rfl w5.heap.size 4 i0 (.bool false) 1 1 Try.underlying73 hi hz0 hz1 hz2 rfl (by decide) _ _ _ rfl h2b (some ⟨wr.heap.size, 0, none⟩) 1 1 (boolCells [true]) rfl rfl (lies_bool1 _ _) (boolCells_one' _) (by unfold maxLen; omega) (by omega) (by simp; omega) ?_; intro v5 w6 o5 g5; refine Hid.out ?_)
            refine Lib.hid ?_
            have g5 : ((wr.drewN nq).alloc (.cells #[.bool true] 4)).grownBy w6 (Value.slice Z bs.length zc).ownBlock := g5
            rw [← boolCells_snoc, show bs.length + 1 = (bs ++ [true]).length by simp] at o5
            obtain ⟨Z5, z5, rfl, _⟩ := own_lies o5
            have ne0 : some w.heap.size ≠ (Value.slice Z bs.length zc).ownBlock := fun e => by have := (h2b.lt _ e.symm).1; omega
            have ne1 : some (w.heap.size + 1) ≠ (Value.slice Z bs.length zc).ownBlock := fun e => by have := (h2b.lt _ e.symm).1; omega
            have ne2 : some (w.heap.size + 1 + 1) ≠ (Value.slice Z bs.length zc).ownBlock := fun e => by have := (h2b.lt _ e.symm).1; omega
            have C0 := Lib.hid ((g5.block w.heap.size c0'.lt ne0).trans c0')
            have C1 := Lib.hid ((g5.block (w.heap.size + 1 + 1) c1'.lt ne2).trans c1')
            have Q6 := Lib.hid (hQ'.grown g5 ne1)
            have B6 := Lib.hid (B7.grown g5 (by simp; omega) (fun b e => by have := (h2b.lt b e).1; omega))
            have HO5 := Lib.hid o5
            have HBS2 : Hid (bs ++ [true] = V.take (k + 1)) := Lib.hid (by rw [HT.out, HBS.out])
            clear o5 g5 h2b c0' c1' hQ' B7 BD ne0 ne1 ne2
            go_wp2_with fail
            go_roundw
            case rel => exact ⟨k + 1, bs ++ [true], Z5, z5, by omega, HBS2.out, by go_num, by rw [HC.out]; go_num, rfl, HO5.out, C0.out, C1.out, Q6.out, B6.out⟩
            case measure => simp [intOf]; omega
      · have hke : k = 3 := by omega
        subst hke
        have hbv : bs = V := by rw [HBS.out, List.take_of_length_le (by rw [HVL.out]; exact Nat.le_refl _)]
        subst hbv
        obtain ⟨gz, rfl⟩ := own_addr ho (by rw [HVL.out]; decide)
        have hgz := ho.lt gz rfl
        have hlV : Lies wr (some ⟨gz, 0, none⟩) (boolCells bs) := (by obtain ⟨A', c', ee, h⟩ := own_lies ho; cases ee; exact h)
        have hS := spec_putG base g cap ps n (some ⟨gC, 0, none⟩) (some ⟨gz, 0, none⟩) cc zc cs bs wr hnl (rs_each HOK.out.2 rfl) (Nat.le_trans hbase BW.size) (HA.out.below BW) (by rw [HCL.out, H3.out]) (by rw [HVL.out, H3.out]) hts (hlC.below BL) hlV (fun b o e => by cases e; omega) (fun b o e => by cases e; omega)
        have hx0 := c0.cells.1
        obtain ⟨q0, q1, q2, q3, q4, hpl, _⟩ := id hQ
        have hng : some (w.heap.size + 1 + 1) ≠ some g := fun e => by injection e with e; omega
        have hkc : ¬ (3 : Int) < (cs.length : Int) := by have := HCL.out; omega
        clear hlV ho hlC hlY hAt HA
        by_cases hput : PutOk (dks ps) n cs bs
        · have HGD := Lib.hid (HGH.out.2 hput)
          have L2 := hS.mono (R' := fun r w' => ∃ (cur : List RD) (A : Option Addr) (c : Nat), r = .returned (.tuple #[.agg #[.slice A cur.length c], .bool true]) ∧ dks cur = putL (dks ps) n cs bs ∧ RKeep w' base w'.heap.size (.slice A cur.length c) cur ∧ Below base wr w' ∧ wr.grownBy w' (some g)) (fun r w' hh => by
            rcases hh with ⟨_, h⟩ | ⟨h0, _⟩
            · exact h
            · exact absurd hput h0)
          clear hput hS
          go_wp2_with (go_at_call 49; refine L2.mono ?_; rintro r w6 ⟨cur, A6, c6, rfl, hd, hk6, hb6, G6⟩; refine Hid.out ?_)
          refine Lib.hid ?_
          have c7 : B1 w6 (w.heap.size + 1 + 1) 24 (.slice none 0 0) := (G6.block _ c1.lt hng).trans c1
          have HDD := Lib.hid hd
          obtain ⟨y0, f0⟩ := c7.cells
          have hl7 := c7.lt
          have k8 := ((hk6.box c7 (by decide) (by decide) (by decide) (by decide) (.slice A6 cur.length c6)).below (bel_new (Below.refl _ _) (.cells #[.slice A6 cur.length c6] 24))).wide (Nat.le_refl _) (show w6.heap.size ≤ ((w6.setCell ⟨w.heap.size + 1 + 1, 0, none⟩ (.slice A6 cur.length c6)).alloc (.cells #[.slice A6 cur.length c6] 24)).heap.size by rw [World.size_alloc, size_put]; exact Nat.le_succ _)
          have B8 := ((BW.mono hbase).trans (hb6.setCell (p := ⟨w.heap.size + 1 + 1, 0, none⟩) (show base ≤ w.heap.size + 1 + 1 by omega) (.slice A6 cur.length c6))).alloc (show base ≤ _ by rw [size_put]; omega) (.cells #[.slice A6 cur.length c6] 24)
          have K8 := Lib.hid k8
          have HB8 := Lib.hid B8
          have hsum : Hid (cur.length = cur.length) := Lib.hid rfl
          clear L2 hd c0 c1 hQ BL q0 q1 q3 q4 q2 hpl hk6 hb6 G6 k8 B8 hsum
          go_wp2_with fail
          have HE : needs (dks ps) n (wantR (dks ps) n b c d e) = bs := by rw [← HWR.out, ← HV.out]
          exact bodyPost_ret (v := .tuple #[.agg #[.slice A6 cur.length c6], .int .i64 ((cntV bs 3 : Nat) : Int), .bool true]) (by simp [results, Try.f62, go_sem, y0, hl7]) rfl (.inl ⟨HGD.out, cur, A6, c6, by rw [HE], by rw [HDD.out, HE, HWR.out], K8.out, HB8.out⟩)
        · have HGD := Lib.hid (fun h => hput (HGH.out.1 h))
          have L2 := hS.mono (R' := fun r w' => r = .returned (.tuple #[.agg #[.slice none 0 0], .bool false]) ∧ Below base wr w' ∧ wr.grownBy w' (some g)) (fun r w' hh => by
            rcases hh with ⟨h0, _⟩ | ⟨_, e, hb⟩
            · exact absurd h0 hput
            · exact ⟨e, hb⟩)
          clear hput hS
          go_wp2_with (go_at_call 49; refine L2.mono ?_; rintro r w6 ⟨rfl, hb6, G6⟩; refine Hid.out ?_)
          refine Lib.hid ?_
          have c7 : B1 w6 (w.heap.size + 1 + 1) 24 (.slice none 0 0) := (G6.block _ c1.lt hng).trans c1
          obtain ⟨y0, f0⟩ := c7.cells
          have hl7 := c7.lt
          have B8 := ((BW.mono hbase).trans (hb6.setCell (p := ⟨w.heap.size + 1 + 1, 0, none⟩) (show base ≤ w.heap.size + 1 + 1 by omega) (.slice none 0 0))).alloc (show base ≤ _ by rw [size_put]; omega) (.cells #[.slice none 0 0] 24)
          have HB8 := Lib.hid B8
          clear L2 c0 c1 hQ BL q0 q1 q2 q3 q4 hpl hb6 G6 B8
          go_wp2_with fail
          exact bodyPost_ret (v := .tuple #[.agg #[.slice none 0 0], .int .i64 0, .bool false]) (by simp [results, Try.f62, go_sem, y0, hl7]) rfl (.inr ⟨HGD.out, rfl, HB8.out⟩)
end Go.Proofs.Ytndckncoipkhaaa
