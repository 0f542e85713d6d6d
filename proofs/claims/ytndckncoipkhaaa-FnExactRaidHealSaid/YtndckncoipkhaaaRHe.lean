/-
  written, the program's, as RaidHeal asks it: columns are put to the waits of the disks that are there and have another one.
-/
import Derived.Test.YtndckncoipkhaaaRWn
import Derived.Test.YtndckncoipkhaaaRRw
namespace Go.Proofs.Ytndckncoipkhaaa
open Go.RowKit

/-- What a disk has of a row is not the text. -/
def needT (d : Dk) (n : Int) (t : ByteArray) : Bool := !((latest d n).toList == t.toList)
def needB (d : Dk) (n : Int) (t : ByteArray) : Bool := !d.gone && needT d n t
def needs (R : List Dk) (n : Int) (cs : List ByteArray) : List Bool := (List.range 3).map fun k => needB (R.getD k dk0) n (cs.getD k none8)
theorem needs_at (R : List Dk) (n : Int) (cs : List ByteArray) (k : Nat) (h : k < 3) : (needs R n cs)[k]? = some (needB (R.getD k dk0) n (cs.getD k none8)) := by
  simp [needs, h]
theorem needs_len (R : List Dk) (n : Int) (cs : List ByteArray) : (needs R n cs).length = 3 := by simp [needs]
/-- How many are wanted of the first k. -/
def cntV (vs : List Bool) (k : Nat) : Nat := ((vs.take k).filter id).length
theorem cntV_zero (vs : List Bool) : cntV vs 0 = 0 := by simp [cntV]
theorem cntV_next {vs : List Bool} {k : Nat} {b : Bool} (h : vs[k]? = some b) : cntV vs (k + 1) = cntV vs k + (if b = true then 1 else 0) := by
  unfold cntV
  rw [List.take_add_one, h]
  cases b <;> simp
theorem cntV_yes {vs : List Bool} {k : Nat} (h : vs[k]? = some true) : cntV vs (k + 1) = cntV vs k + 1 := cntV_next h
theorem cntV_no {vs : List Bool} {k : Nat} (h : vs[k]? = some false) : cntV vs (k + 1) = cntV vs k := cntV_next h

def HlPost (R : List Dk) (n : Int) (cs : List ByteArray) (vs : List Bool) (w : World) (r : Ending) (w' : World) : Prop :=
  (PutOk R n cs vs ∧ ∃ (cur : List RD) (A : Option Addr) (c : Nat), r = .returned (.tuple #[.agg #[.slice A cur.length c], .int .i64 ((cntV vs 3 : Nat) : Int), .bool true]) ∧ dks cur = putL R n cs vs ∧ ROwn w' w.heap.size (.slice A cur.length c) cur ∧ Below w.heap.size w w')
  ∨ (¬ PutOk R n cs vs ∧ r = .returned (.tuple #[.agg #[.slice none 0 0], .int .i64 0, .bool false]) ∧ Below w.heap.size w w')

theorem needs63 (A B : Option Addr) (c e : Nat) (d : Dk) (n : Nat) (t : ByteArray) (pb : Nat) (w : World) (hok : DkOk d) (hn : n < 64) (hA : DkAt w A B d) (hpl : pb < w.heap.size) (hp : w.cell? ⟨pb, 0, none⟩ = some (.int .i64 n)) :
    Calls Try.prog 63 #[.agg #[.slice A d.cells.length c, .slice B d.waits.length e, .bool d.gone], .string t, .pointer (some ⟨pb, 0, none⟩)] w fun r w' => r = .returned (.bool (needT d (n : Int) t)) ∧ Below w.heap.size w w' := by
  have hL := fun W (hW : Below w.heap.size w W) => latest_is A B c e d n W hok hn (hA.below hW)
  obtain ⟨g, hg⟩ : ∃ g, g = d.gone := ⟨_, rfl⟩
  obtain ⟨lt, hlt⟩ : ∃ lt, lt = latest d (n : Int) := ⟨_, rfl⟩
  unfold needT
  simp only [← hg, ← hlt] at hL ⊢
  clear hok hn hA hg hlt
  go_enter Try.func63, Try.ntmps63
  go_wp2_with (go_at_call 64; refine (hL _ (by first | exact Below.refl _ _ | exact bel_new (Below.refl _ _) _)).mono ?_; rintro r w2 ⟨rfl, hb2⟩)
  go_ret
  exact ⟨rfl, by first | exact hb2 | exact bel_then (bel_new (Below.refl _ _) _) hb2⟩

set_option maxRecDepth 100000 in
set_option maxHeartbeats 8000000 in
theorem impl_heals (A : Option Addr) (cap : Nat) (ps : List RD) (n : Nat) (t : ByteArray) (pb : Nat) (w : World) (hok : RsOk (dks ps)) (hf : ∀ p ∈ ps, Bulk p.d) (hA : RAt w A ps) (ht : t.size ≤ 128) (hn63 : n < 64) (hpb : pb < w.heap.size) (hpc : w.cell? ⟨pb, 0, none⟩ = some (.int .i64 n)) :
    Calls Try.prog 54 #[.agg #[.slice A ps.length cap], .int .i64 n, .string t, .func (.func 63) #[] #[.pointer (some ⟨pb, 0, none⟩)]] w (HlPost (dks ps) n (Cut.texts3 t.data.toList) (needs (dks ps) n (Cut.texts3 t.data.toList)) w) := by
  obtain ⟨V, hV⟩ : ∃ V, V = needs (dks ps) n (Cut.texts3 t.data.toList) := ⟨_, rfl⟩
  rw [← hV]
  have h3 : Hid (ps.length = 3) := Lib.hid (by have := hok.1; rwa [dks_len] at this)
  obtain ⟨W0, hW0⟩ : ∃ W, W = ((w.alloc (.cells #[.slice A ps.length cap] 24)).alloc (.cells #[.slice none 0 0] 24)) := ⟨_, rfl⟩
  have bl : Below w.heap.size w W0 := by rw [hW0]; exact bel_new (bel_new (Below.refl _ _) _) _
  have b0 : B1 W0 w.heap.size 24 (.slice A ps.length cap) := by rw [hW0]; exact (B1.new w 24 (.slice A ps.length cap)).alloc (.cells #[.slice none 0 0] 24)
  have b1 : B1 W0 (w.heap.size + 1) 24 (.slice none 0 0) := by
    have := B1.new (w.alloc (.cells #[.slice A ps.length cap] 24)) 24 (.slice none 0 0)
    rw [World.size_alloc] at this
    rw [hW0]; exact this
  have hR := fun W (hW : Below w.heap.size w W) => impl_rcopied A cap ps W h3.out hf (hA.below hW)
  have hCt := fun W => Cut.cutter_any t W ht
  subst hW0
  go_enter Try.func54, Try.ntmps54
  go_wp2_with (go_at_call 75; refine (hR _ bl).mono ?_; rintro r w2 ⟨qs, A2, c2, rfl, hq, ho, hb2⟩; refine Hid.out ?_)
  refine Lib.hid ?_
  have b0 := b0.below hb2
  have b1 := b1.below hb2
  have BB := bel_then bl hb2
  have hql := dks_same hq
  obtain ⟨g, rfl, hg, hgb⟩ := own_goneAt ho.1 (by rw [hql, h3.out]; decide)
  have hgb : w.heap.size + 1 + 1 ≤ g := by simpa using hgb
  have s2 : w.heap.size + 1 + 1 ≤ w2.heap.size := by have := hb2.size; simpa using this
  clear hR hb2 bl
  have bo := B1.new w2 24 (.slice (some ⟨g, 0, none⟩) qs.length c2)
  have bl : Below w2.heap.size w2 (w2.alloc (.cells #[.slice (some ⟨g, 0, none⟩) qs.length c2] 24)) := (Below.refl _ _).alloc (Nat.le_refl _) _
  have ho := (ho.base (base' := w.heap.size + 1 + 1) (by simp)).below bl
  have b0 := b0.below bl
  have b1 := b1.below bl
  have BB := bel_then BB bl
  have HQ := Lib.hid hq
  have HL := Lib.hid hql
  clear bl hq hql
  go_wp2_with (go_at_call 92; refine (hCt _).mono ?_; rintro r w3 ⟨F, rfl, hF, hb3⟩; refine Hid.out ?_)
  refine Lib.hid ?_
  have bo := bo.below hb3
  have ho := ho.below hb3
  have b0 := b0.below hb3
  have b1 := b1.below hb3
  have BB := bel_then BB hb3
  have s3 := hb3.size
  rw [World.size_alloc] at s3
  obtain ⟨fa, fb, fc, rfl, hF0, hfa, hfb, hfc, ea, eb, ec⟩ := hF
  clear hCt hb3
  obtain ⟨x0, _⟩ := b0.cells
  obtain ⟨X, hX⟩ : ∃ X, X = putL (dks ps) n (Cut.texts3 t.data.toList) V := ⟨_, rfl⟩
  have hXl : X.length = (dks ps).length := by rw [hX, putL_len]
  have hVK : ∀ (k : Nat) (h : k < ps.length), V[k]? = some (needB ps[k].d n (Cut.colT t.data.toList (k : Int))) := fun k h => by
    rw [hV, needs_at _ _ _ k (by have := h3.out; omega), dks_getD h, List.getD_eq_getElem?_getD, texts3_at _ k (by have := h3.out; omega)]
    rfl
  have hPF : ∀ (k : Nat) (h : k < ps.length), putF (dks ps) n (Cut.texts3 t.data.toList) V k = putD ps[k].d n (Cut.colT t.data.toList (k : Int)) (needB ps[k].d n (Cut.colT t.data.toList (k : Int))) := fun k h => by
    unfold putF
    have hv := hVK k h
    rw [dks_getD h, List.getD_eq_getElem?_getD, texts3_at _ k (by have := h3.out; omega), List.getD_eq_getElem?_getD (l := V), hv]
    rfl
  have hXs : ∀ (k : Nat) (h : k < ps.length) (d : Dk), putF (dks ps) n (Cut.texts3 t.data.toList) V k = some d → X[k]? = some d := fun k h d hd => by
    rw [hX]
    exact List.getElem?_eq_some_iff.2 ⟨by rw [putL_len, dks_len]; exact h, putL_at _ _ _ _ k (by rw [dks_len]; exact h) d hd⟩
  have htl : t.data.toList.length ≤ 128 := by have : t.data.toList.length = t.size := rfl; omega
  obtain ⟨l, hl⟩ : ∃ l, l = t.data.toList := ⟨_, rfl⟩
  simp only [← hl] at hX hPF hXs hVK htl ea eb ec ⊢
  have hc1 := fun (k : Int) W e1 e2 e3 => Cut.cut_col l k fa fb fc W htl e1 e2 e3
  have hnl : ps.length ≤ 1048576 := by have := h3.out; omega
  have HX := Lib.hid hX
  have HXL := Lib.hid hXl
  have HPF := Lib.hid hPF
  have HVK := Lib.hid hVK
  have HXS := Lib.hid hXs
  have HOK := Lib.hid hok.2
  have HLT := Lib.hid htl
  have hdk : ∀ (k : Nat) (h : k < ps.length), (dks ps)[k]'(by rw [dks_len]; exact h) = ps[k].d := fun k h => by simp [dks]
  have HDK := Lib.hid hdk
  rw [World.size_alloc] at hF0
  have hfg : g < fa ∧ g < fb ∧ g < fc := by omega
  have HTL := Lib.hid hl
  have HNB := Lib.hid hn63
  have HPC := Lib.hid hpc
  clear hX hXl hPF hXs hok htl hdk hl hVK hV hn63 hpc
  go_wp2_with fail
  go_loopw [12, 26] (fun mm i wr => ∃ (k : Nat) (cur : List RD) (m : Nat), k ≤ ps.length ∧ m ≤ k ∧ m = cntV V k ∧ i = .int .i64 k ∧ mm = .int .i64 (m : Int) ∧ cur.length = qs.length ∧ dks cur = partT X (dks ps) k ∧ okTo (dks ps) n (Cut.texts3 l) V k ∧ ROwn wr (w.heap.size + 1 + 1) (.slice (some ⟨g, 0, none⟩) cur.length c2) cur ∧ w3.grownBy wr (some g)) (fun _ i _ => ps.length - (intOf i).toNat)
  case atStart => exact ⟨0, qs, 0, Nat.zero_le _, Nat.le_refl _, (cntV_zero V).symm, rfl, rfl, rfl, by rw [partT_zero, HQ.out], fun j h => by omega, ho, World.grownBy.refl _ _⟩
  case round =>
    clear ho
    obtain ⟨k, cur, m, hk, hmk, hmc, rfl, rfl, hcl, hd, hoks, hoL, GB⟩ := hrel
    have HMC := Lib.hid hmc
    clear hmc
    have HD := Lib.hid hd
    have HOKS := Lib.hid hoks
    have HCU := Lib.hid hcl
    clear hd hoks
    have gsz := GB.size
    have BBr : Below w.heap.size w wr := BB.grown GB (by omega) (fun b e => by cases e; omega)
    have y1 : B1 wr (w.heap.size + 1) 24 (.slice none 0 0) := (GB.block (w.heap.size + 1) b1.lt (fun e => by injection e with e; omega)).trans b1
    have yo : B1 wr w2.heap.size 24 (.slice (some ⟨g, 0, none⟩) qs.length c2) := (GB.block w2.heap.size bo.lt (fun e => by injection e with e; omega)).trans bo
    by_cases hlt : k < ps.length
    · obtain ⟨bb, off, rfl, hlb, z0, z1, z2, hd⟩ := (hA.below BBr).cell k hlt
      have hfp := hf ps[k] (List.getElem_mem hlt)
      have hok := HOK.out ps[k].d (List.mem_map.2 ⟨ps[k], List.getElem_mem hlt, rfl⟩)
      have hpf := HPF.out k hlt
      have hvk := HVK.out k hlt
      have hxs := HXS.out k hlt
      have hki : (k : Int) < (ps.length : Int) := by omega
      have hkq : k < cur.length := by have := HL.out; omega
      have hkqi : (k : Int) < (qs.length : Int) := by have := HL.out; omega
      have e1 : wr.cell? ⟨fa, 0, none⟩ = _ := (GB.cell_far ⟨fa, 0, none⟩ hfa (by simp; omega)).trans ea
      have e2 : wr.cell? ⟨fb, 0, none⟩ = _ := (GB.cell_far ⟨fb, 0, none⟩ hfb (by simp; omega)).trans eb
      have e3 : wr.cell? ⟨fc, 0, none⟩ = _ := (GB.cell_far ⟨fc, 0, none⟩ hfc (by simp; omega)).trans ec
      have hdk := HDK.out k hlt
      obtain ⟨P, hP⟩ : ∃ P, P = ps[k] := ⟨_, rfl⟩
      rw [← hP] at z0 z1 z2 hd hfp hok hpf hdk hvk
      obtain ⟨tx, htx⟩ : ∃ tx, tx = Cut.colT l (k : Int) := ⟨_, rfl⟩
      have htz : tx.size ≤ 200 := by rw [htx]; exact colT_size l _ HLT.out
      have bW1 : Below wr.heap.size wr (wr.alloc (.cells #[.slice P.a P.d.cells.length P.c, .slice P.b P.d.waits.length P.e, .bool P.d.gone] 60)) := bel_new (Below.refl _ _) _
      have dx := Bx.new wr 60 (.slice P.a P.d.cells.length P.c) (.slice P.b P.d.waits.length P.e) (.bool P.d.gone)
      have hC1 := hc1 (k : Int) _ ((bW1.cell (p := ⟨fa, 0, none⟩) (by show fa < wr.heap.size; omega)).trans e1) ((bW1.cell (p := ⟨fb, 0, none⟩) (by show fb < wr.heap.size; omega)).trans e2) ((bW1.cell (p := ⟨fc, 0, none⟩) (by show fc < wr.heap.size; omega)).trans e3)
      rw [← htx] at hC1 hpf hvk
      have HVQ := Lib.hid hvk
      clear hvk
      have hm3 : (m : Int) ≤ 1048576 := by omega
      clear htx e1 e2 e3 hc1
      have HPD := Lib.hid hpf
      have HXS2 := Lib.hid hxs
      have HDK2 := Lib.hid hdk
      have HHO := Lib.hid hoL
      have HCK := Lib.hid hok
      have HFP := Lib.hid hfp
      have HHD := Lib.hid hd
      clear hpf hxs hdk hoL hok hfp hd hP
      by_cases hgo : P.d.gone = true
      · have hput := HPD.out.trans (if_pos (.inl hgo) : putD P.d n tx (needB P.d n tx) = some P.d)
        obtain ⟨hxk, hX2⟩ := List.getElem?_eq_some_iff.1 (HXS2.out _ hput)
        have HPN := Lib.hid (partT_same (T := X) (R := dks ps) HXL.out (k := k) (by rw [dks_len]; exact hlt) (by rw [hX2, HDK2.out]))
        have HOK2 : Hid (okTo (dks ps) n (Cut.texts3 l) V (k + 1)) := Lib.hid (fun j hj => by
          by_cases e : j = k
          · subst e; rw [hput]; rfl
          · exact HOKS.out j (by omega))
        have HCN := Lib.hid (cntV_no (HVQ.out.trans (by rw [show needB P.d n tx = false by unfold needB; rw [hgo]; rfl])))
        rw [hgo] at z2 hC1 bW1 dx
        clear hput hX2 hxk hgo
        go_wp2_with (go_at_call 117; refine hC1.mono ?_; rintro r w4 ⟨rfl, hb4⟩; refine Hid.out ?_)
        refine Lib.hid ?_
        have dx4 := dx.below hb4
        obtain ⟨⟨v0, v1, v2⟩, _, _, _⟩ := dx4.cells
        have B4 := bel_then bW1 hb4
        have H4 := Lib.hid (HHO.out.below B4)
        have G4 := Lib.hid (grown_trans GB (below_grown B4 _))
        clear hC1 dx dx4 bW1 hb4 B4 z0 z1 z2
        go_wp2_with fail
        go_roundw
        case rel => exact ⟨k + 1, cur, m, by omega, by omega, by rw [HCN.out]; exact HMC.out, by go_num, rfl, HCU.out, by rw [HD.out, HPN.out], HOK2.out, H4.out, G4.out⟩
        case measure => simp [intOf]; omega
      · have hg0 : P.d.gone = false := by simpa using hgo
        have HG0 := Lib.hid hg0
        have hpl7 : pb < wr.heap.size := by have := BBr.size; omega
        have hpc7 : wr.cell? ⟨pb, 0, none⟩ = some (.int .i64 (n : Int)) := (BBr.cell (p := ⟨pb, 0, none⟩) hpb).trans HPC.out
        have hN63 := fun W (hW : Below wr.heap.size wr W) => needs63 P.a P.b P.c P.e P.d n tx pb W HCK.out HNB.out (HHD.out.below hW) (by have := hW.size; omega) ((hW.cell (p := ⟨pb, 0, none⟩) hpl7).trans hpc7)
        clear hpc7
        by_cases hnd : needT P.d n tx = true
        · have hnB : needB P.d n tx = true := by unfold needB; rw [hg0, hnd]; rfl
          simp only [hnd] at hN63
          have HCN := Lib.hid (cntV_yes (HVQ.out.trans (by rw [hnB])))
          have HPD := Lib.hid (HPD.out.trans (show putD P.d n tx (needB P.d n tx) = putD P.d n tx true by rw [hnB]))
          clear hnd hnB
          have hIm := fun W (hW : Below wr.heap.size wr W) => impl_write P.a P.b P.c P.e P.d n tx W HFP.out (HHD.out.below hW) (Nat.le_trans htz (by decide))
          by_cases hT : Take P.d n tx ∧ P.d.waits.length < 120
          · have hput := HPD.out.trans (show putD P.d n tx true = some ⟨P.d.cells, P.d.waits ++ [⟨n, tx⟩], P.d.gone⟩ by unfold putD; rw [if_neg (by simp [hg0]), if_pos hT])
            obtain ⟨hxk, hX2⟩ := List.getElem?_eq_some_iff.1 (HXS2.out _ hput)
            have hpn := partT_next (T := X) (R := dks ps) HXL.out (k := k) (by rw [dks_len]; exact hlt)
            rw [hX2] at hpn
            have HOK2 : Hid (okTo (dks ps) n (Cut.texts3 l) V (k + 1)) := Lib.hid (fun j hj => by
              by_cases e : j = k
              · subst e; rw [hput]; rfl
              · exact HOKS.out j (by omega))
            simp only [writeD_yes HCK.out ⟨hT.1.1, hT.1.2.1, hT.1.2.2.1, hT.1.2.2.2, hT.2⟩] at hIm
            obtain ⟨D, hDD⟩ : ∃ D : Dk, D = ⟨P.d.cells, P.d.waits ++ [⟨n, tx⟩], P.d.gone⟩ := ⟨_, rfl⟩
            simp only [← hDD] at hIm hpn
            have HPN := Lib.hid hpn
            obtain ⟨gone, hgg⟩ : ∃ gone, gone = P.d.gone := ⟨_, rfl⟩
            rw [← hgg] at z2 hC1 bW1 dx hg0
            simp only [← hgg] at hIm hN63
            subst hg0
            clear hput hX2 hxk hgo hT hpn hDD hgg
            go_wp2_with (go_at_call 117; refine hC1.mono ?_; rintro r w4 ⟨rfl, hb4⟩; refine Hid.out ?_)
            refine Lib.hid ?_
            have dx4 := dx.below hb4
            obtain ⟨⟨v0, v1, v2⟩, _, _, _⟩ := dx4.cells
            have B4 := bel_then bW1 hb4
            clear hC1 dx bW1 hb4 z0 z1 z2
            have hN5 := hN63 _ B4
            clear hN63
            go_wp2_with (go_at_call 63; refine hN5.mono ?_; rintro r w5 ⟨rfl, hb5⟩; refine Hid.out ?_)
            refine Lib.hid ?_
            have dx5 := dx4.below hb5
            obtain ⟨⟨t0, t1, t2⟩, _, _, _⟩ := dx5.cells
            have B5 := bel_then B4 hb5
            clear dx4 v0 v1 v2 B4 hb5
            have hI5 := hIm w5 B5
            go_wp2_with (go_at_call 93; refine hI5.mono ?_; rintro r w6 ⟨A', c', B', e', rfl, hv, hb6⟩; refine Hid.out ?_)
            refine Lib.hid ?_
            have b7 := bel_new hb6 (.cells #[.slice A' D.cells.length c', .slice B' D.waits.length e', .bool D.gone] 60)
            have hv7 := hv.below (bel_new (Below.refl w6.heap.size w6) (.cells #[.slice A' D.cells.length c', .slice B' D.waits.length e', .bool D.gone] 60))
            have dk7 := Bx.new w6 60 (.slice A' D.cells.length c') (.slice B' D.waits.length e') (.bool D.gone)
            obtain ⟨rs, hrl, hrd, hro⟩ := rown_swap (HHO.out.below B5) b7 hkq hv7
            have B7 := bel_then B5 b7
            have hb67 := Lib.hid hb6.size
            clear dx5 t0 t1 t2 hI5 hIm hv hb6 hN5
            go_upto_region 9 with fail
            generalize hWW : w6.alloc (.cells #[.slice A' D.cells.length c', .slice B' D.waits.length e', .bool D.gone] 60) = W7 at *
            clear hWW
            obtain ⟨⟨u0, u1, u2⟩, _, _, _⟩ := dk7.cells
            have yo7 := yo.below B7
            obtain ⟨q0, _⟩ := yo7.cells
            have hrow7 := own_bel HHO.out.1 B7
            have hgr7 : g < wr.heap.size := (HHO.out.1.lt g rfl).2
            have cells := fun i v (hi : i < 3) (hv : (cur[k].trio)[i]? = some v) => (hrow7.cellAt (k * 3 + i) (by omega)).trans ((trios_at cur k i hkq hi).trans hv)
            have z0 : W7.cell? ⟨g, k * 3, none⟩ = some (.slice cur[k].a cur[k].d.cells.length cur[k].c) := cells 0 _ (by decide) rfl
            have z1 : W7.cell? ⟨g, k * 3 + 1, none⟩ = some (.slice cur[k].b cur[k].d.waits.length cur[k].e) := cells 1 _ (by decide) rfl
            have z2 : W7.cell? ⟨g, k * 3 + 2, none⟩ = some (.bool cur[k].d.gone) := cells 2 _ (by decide) rfl
            have fz0 := hrow7.frozenAt (k * 3)
            have fz1 := hrow7.frozenAt (k * 3 + 1)
            have fz2 := hrow7.frozenAt (k * 3 + 2)
            have HRD : Hid (dks rs = partT X (dks ps) (k + 1)) := Lib.hid (by rw [hrd, HD.out, ← HPN.out])
            have HRL : Hid (rs.length = qs.length) := Lib.hid (hrl.trans HCU.out)
            have G7 := Lib.hid (grown_trans (grown_trans (grown_trans (grown_trans GB (below_grown B7 _)) (grown_set W7 ⟨g, k * 3, none⟩ (.slice A' D.cells.length c'))) (grown_set _ ⟨g, k * 3 + 1, none⟩ (.slice B' D.waits.length e'))) (grown_set _ ⟨g, k * 3 + 2, none⟩ (.bool D.gone)))
            have HRO := Lib.hid hro
            clear hro hrd hrl cells hrow7 dk7 b7 hv7 B7 yo7 B5
            go_wp2_with fail
            go_roundw
            case rel => exact ⟨k + 1, rs, m + 1, by omega, by omega, by rw [HCN.out, ← HMC.out], by go_num, by go_num, HRL.out, HRD.out, HOK2.out, HRO.out, G7.out⟩
            case measure => simp [intOf]; omega
          · have hput := HPD.out.trans (show putD P.d n tx true = none by unfold putD; rw [if_neg (by simp [hg0]), if_neg hT])
            have hNO : Hid (¬ PutOk (dks ps) n (Cut.texts3 l) V) := Lib.hid (fun h => by
              have := h k (by rw [dks_len]; exact hlt)
              rw [hput] at this
              cases this)
            simp only [writeD_no HCK.out (fun h => hT ⟨⟨h.1, h.2.1, h.2.2.1, h.2.2.2.1⟩, h.2.2.2.2⟩)] at hIm
            obtain ⟨gone, hgg⟩ : ∃ gone, gone = P.d.gone := ⟨_, rfl⟩
            unfold DPost2 at hIm
            rw [← hgg] at z2 hC1 bW1 dx hg0
            simp only [← hgg] at hIm hN63
            subst hg0
            clear hput hgo hT hgg
            go_wp2_with (go_at_call 117; refine hC1.mono ?_; rintro r w4 ⟨rfl, hb4⟩; refine Hid.out ?_)
            refine Lib.hid ?_
            have dx4 := dx.below hb4
            obtain ⟨⟨v0, v1, v2⟩, _, _, _⟩ := dx4.cells
            have B4 := bel_then bW1 hb4
            clear hC1 dx bW1 hb4 z0 z1 z2
            have hN5 := hN63 _ B4
            clear hN63
            go_wp2_with (go_at_call 63; refine hN5.mono ?_; rintro r w5 ⟨rfl, hb5⟩; refine Hid.out ?_)
            refine Lib.hid ?_
            have dx5 := dx4.below hb5
            obtain ⟨⟨t0, t1, t2⟩, _, _, _⟩ := dx5.cells
            have B5 := bel_then B4 hb5
            clear dx4 v0 v1 v2 B4 hb5
            have hI5 := hIm w5 B5
            go_wp2_with (go_at_call 93; refine hI5.mono ?_; rintro r w6 ⟨A', c', B', e', rfl, hv, hb6⟩; refine Hid.out ?_)
            refine Lib.hid ?_
            have y7 := (y1.below (bel_then B5 hb6)).alloc (.cells #[.slice A' P.d.cells.length c', .slice B' P.d.waits.length e', .bool false] 60)
            have B7 := bel_new (bel_then BBr (bel_then B5 hb6)) (.cells #[.slice A' P.d.cells.length c', .slice B' P.d.waits.length e', .bool false] 60)
            obtain ⟨q0, _⟩ := y7.cells
            clear dx5 t0 t1 t2 hI5 hIm hv hb6 hN5 B5
            go_wp2_with fail
            obtain rfl := HTL.out
            exact bodyPost_ret (v := .tuple #[.agg #[.slice none 0 0], .int .i64 0, .bool false]) (by simp [results, Try.f54, go_sem, q0]) rfl (.inr ⟨hNO.out, rfl, B7.setCell (p := ⟨w.heap.size + 1, 0, none⟩) (Nat.le_succ _) _⟩)
        · have hnf : needT P.d n tx = false := by simpa using hnd
          have hnB : needB P.d n tx = false := by unfold needB; rw [hg0, hnf]; rfl
          have hput := HPD.out.trans (if_pos (.inr hnB) : putD P.d n tx (needB P.d n tx) = some P.d)
          obtain ⟨hxk, hX2⟩ := List.getElem?_eq_some_iff.1 (HXS2.out _ hput)
          have HPN := Lib.hid (partT_same (T := X) (R := dks ps) HXL.out (k := k) (by rw [dks_len]; exact hlt) (by rw [hX2, HDK2.out]))
          have HOK2 : Hid (okTo (dks ps) n (Cut.texts3 l) V (k + 1)) := Lib.hid (fun j hj => by
            by_cases e : j = k
            · subst e; rw [hput]; rfl
            · exact HOKS.out j (by omega))
          simp only [hnf] at hN63
          have HCN := Lib.hid (cntV_no (HVQ.out.trans (by rw [hnB])))
          obtain ⟨gone, hgg⟩ : ∃ gone, gone = P.d.gone := ⟨_, rfl⟩
          rw [← hgg] at z2 hC1 bW1 dx hg0
          simp only [← hgg] at hN63
          subst hg0
          clear hput hX2 hxk hgo hnd hnf hnB hgg
          go_wp2_with (go_at_call 117; refine hC1.mono ?_; rintro r w4 ⟨rfl, hb4⟩; refine Hid.out ?_)
          refine Lib.hid ?_
          have dx4 := dx.below hb4
          obtain ⟨⟨v0, v1, v2⟩, _, _, _⟩ := dx4.cells
          have B4 := bel_then bW1 hb4
          have hN5 := hN63 _ B4
          clear hC1 dx bW1 hb4 z0 z1 z2 hN63
          go_wp2_with (go_at_call 63; refine hN5.mono ?_; rintro r w5 ⟨rfl, hb5⟩; refine Hid.out ?_)
          refine Lib.hid ?_
          have B5 := bel_then B4 hb5
          have H4 := Lib.hid (HHO.out.below B5)
          have G4 := Lib.hid (grown_trans GB (below_grown B5 _))
          clear dx4 v0 v1 v2 B4 hb5 hN5 B5
          go_wp2_with fail
          go_roundw
          case rel => exact ⟨k + 1, cur, m, by omega, by omega, by rw [HCN.out]; exact HMC.out, by go_num, rfl, HCU.out, by rw [HD.out, HPN.out], HOK2.out, H4.out, G4.out⟩
          case measure => simp [intOf]; omega
    · have hke : k = ps.length := by omega
      subst hke
      obtain ⟨y0, f0⟩ := y1.cells
      obtain ⟨q0, _⟩ := yo.cells
      have hdd : dks cur = X := by rw [HD.out, ← dks_len ps, partT_all HXL.out]
      have HDD := Lib.hid hdd
      have HHO := Lib.hid hoL
      clear hdd hoL
      go_wp2_with fail
      obtain rfl := HTL.out
      exact bodyPost_ret (v := .tuple #[.agg #[.slice (some ⟨g, 0, none⟩) qs.length c2], .int .i64 (m : Int), .bool true]) (by simp [results, Try.f54, go_sem, y0]) rfl (.inl ⟨fun j hj => HOKS.out j (by rwa [dks_len] at hj), cur, some ⟨g, 0, none⟩, c2, by rw [HCU.out, HMC.out, h3.out], by rw [HDD.out, HX.out], (HHO.out.set (p := ⟨w.heap.size + 1, 0, none⟩) (Nat.lt_succ_self _) _).base (by omega), BBr.setCell (p := ⟨w.heap.size + 1, 0, none⟩) (Nat.le_succ _) _⟩)
end Go.Proofs.Ytndckncoipkhaaa
