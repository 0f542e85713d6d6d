/-
  A text is put to the waits of some disks of a set: of what was there just the disks' own block changes.
-/
import Derived.Test.YtndckncoipkhaaaRPu
namespace Go.Proofs.Ytndckncoipkhaaa
open Go.RowKit

/-- .. and of what was there but one block has changed. -/
def PutsPostG (base g : Nat) (R : List Dk) (n : Int) (cs : List ByteArray) (vs : List Bool) (w : World) (r : Ending) (w' : World) : Prop :=
  (PutOk R n cs vs ∧ ∃ (cur : List RD) (A : Option Addr) (c : Nat), r = .returned (.tuple #[.agg #[.slice A cur.length c], .bool true]) ∧ dks cur = putL R n cs vs ∧ RKeep w' base w'.heap.size (.slice A cur.length c) cur ∧ Below base w w' ∧ w.grownBy w' (some g))
  ∨ (¬ PutOk R n cs vs ∧ r = .returned (.tuple #[.agg #[.slice none 0 0], .bool false]) ∧ Below base w w' ∧ w.grownBy w' (some g))
theorem grown_new {a b : World} {r : Option Nat} (h : a.grownBy b r) {p : Addr} (hp : a.heap.size ≤ p.block) (u : Value) : a.grownBy (b.setCell p u) r :=
  ⟨h.os, h.tape, h.output, by rw [size_put]; exact h.size, fun k hk hr => (Below.heap_setCell b p u k (by omega)).trans (h.block k hk hr)⟩

set_option maxRecDepth 100000 in
set_option maxHeartbeats 8000000 in
theorem spec_putG (base g c : Nat) (ps : List RD) (n : Int) (C V : Option Addr) (cc vc : Nat) (cs : List ByteArray) (vs : List Bool) (w : World) (hn : ps.length ≤ 1048576) (hf : ∀ p ∈ ps, DkOk p.d) (hbase : base ≤ w.heap.size) (hA : ROwn w base (.slice (some ⟨g, 0, none⟩) ps.length c) ps) (hcl : cs.length = ps.length) (hvl : vs.length = ps.length) (hcz : ∀ s ∈ cs, s.size ≤ maxLen) (hC : Lies w C (strCells cs)) (hV : Lies w V (boolCells vs)) (hCg : ∀ b o, C = some ⟨b, o, none⟩ → b ≠ g) (hVg : ∀ b o, V = some ⟨b, o, none⟩ → b ≠ g) :
    Calls Try.prog 49 #[.agg #[.slice (some ⟨g, 0, none⟩) ps.length c], .int .i64 n, .slice C cs.length cc, .slice V vs.length vc] w (PutsPostG base g (dks ps) n cs vs w) := by
  obtain ⟨W0, hW0⟩ : ∃ W, W = ((w.alloc (.cells #[.slice (some ⟨g, 0, none⟩) ps.length c] 24)).alloc (.cells #[.slice none 0 0] 24)) := ⟨_, rfl⟩
  have bl : Below w.heap.size w W0 := by rw [hW0]; exact bel_new (bel_new (Below.refl _ _) _) _
  have H0 := (Half.start hA).below bl
  have b0 : B1 W0 w.heap.size 24 (.slice (some ⟨g, 0, none⟩) ps.length c) := by rw [hW0]; exact (B1.new w 24 (.slice (some ⟨g, 0, none⟩) ps.length c)).alloc (.cells #[.slice none 0 0] 24)
  have b1 : B1 W0 (w.heap.size + 1) 24 (.slice none 0 0) := by
    have := B1.new (w.alloc (.cells #[.slice (some ⟨g, 0, none⟩) ps.length c] 24)) 24 (.slice none 0 0)
    rw [World.size_alloc] at this
    rw [hW0]; exact this
  have hgw : g < w.heap.size := (hA.1.lt g rfl).2
  have hgb : base ≤ g := (hA.1.lt g rfl).1
  have HAP := Lib.hid hA.2.apart
  have GB : w.grownBy W0 (some g) := below_grown bl _
  subst hW0
  go_enter Try.func49, Try.ntmps49
  obtain ⟨X, hX⟩ : ∃ X, X = putL (dks ps) n cs vs := ⟨_, rfl⟩
  have hXl : X.length = (dks ps).length := by rw [hX, putL_len]
  have hdk : ∀ (k : Nat) (h : k < ps.length), (dks ps)[k]'(by rw [dks_len]; exact h) = ps[k].d := fun k h => by simp [dks]
  have hPF : ∀ (k : Nat) (h : k < ps.length) (t : ByteArray) (v : Bool), cs[k]? = some t → vs[k]? = some v → putF (dks ps) n cs vs k = putD ps[k].d n t v := fun k h t v h1 h2 => by
    unfold putF
    rw [dks_getD h, List.getD_eq_getElem?_getD, h1, List.getD_eq_getElem?_getD, h2]
    rfl
  have hXs : ∀ (k : Nat) (h : k < ps.length) (d : Dk), putF (dks ps) n cs vs k = some d → X[k]? = some d := fun k h d hd => by
    rw [hX]
    exact List.getElem?_eq_some_iff.2 ⟨by rw [putL_len, dks_len]; exact h, putL_at _ _ _ _ k (by rw [dks_len]; exact h) d hd⟩
  have HX := Lib.hid hX
  have HXL := Lib.hid hXl
  have HDK := Lib.hid hdk
  have HPF := Lib.hid hPF
  have HXS := Lib.hid hXs
  have HCL := Lib.hid hcl
  have HVL := Lib.hid hvl
  have hcn : cs.length ≤ 1048576 := by omega
  have hvn : vs.length ≤ 1048576 := by omega
  have BL := bl.mono hbase
  clear hA bl hX hXl hdk hPF hXs hcl hvl
  go_wp2_with fail
  go_loopw [10] (fun i wr => ∃ (k : Nat) (cur : List RD), k ≤ ps.length ∧ i = .int .i64 k ∧ dks cur = partT X (dks ps) k ∧ okTo (dks ps) n cs vs k ∧ Half wr base g c k ps cur ∧ B1 wr w.heap.size 24 (.slice (some ⟨g, 0, none⟩) ps.length c) ∧ B1 wr (w.heap.size + 1) 24 (.slice none 0 0) ∧ w.grownBy wr (some g)) (fun i _ => ps.length - (intOf i).toNat)
  case atStart => exact ⟨0, ps, Nat.zero_le _, rfl, by rw [partT_zero], fun j h => by omega, H0, b0, b1, GB⟩
  case round =>
    clear H0 b0 b1 GB BL
    obtain ⟨k, cur, hk, rfl, hd, hoks, H, b0, b1, GB⟩ := hrel
    have HD := Lib.hid hd
    have HOKS := Lib.hid hoks
    clear hd hoks
    obtain ⟨x0, _⟩ := b0.cells
    have hxl := b0.lt
    have hxl1 := b1.lt
    by_cases hlt : k < ps.length
    · have hkc : k < cs.length := by have := HCL.out; omega
      have hkv : k < vs.length := by have := HVL.out; omega
      have hpf := HPF.out k hlt cs[k] vs[k] (List.getElem?_eq_getElem hkc) (List.getElem?_eq_getElem hkv)
      have hxs := HXS.out k hlt
      obtain ⟨bC, oC, rfl, hbC, zC0⟩ := hC.str k hkc
      obtain ⟨bV, oV, rfl, hbV, zV0⟩ := hV.bool k hkv
      have hbCg : bC ≠ g := hCg _ _ rfl
      have hbVg : bV ≠ g := hVg _ _ rfl
      have zC := (GB.cell_far ⟨bC, oC + k, none⟩ hbC (by simpa using hbCg)).trans zC0
      have zV := (GB.cell_far ⟨bV, oV + k, none⟩ hbV (by simpa using hbVg)).trans zV0
      have htz := hcz cs[k] (List.getElem_mem hkc)
      clear zC0 zV0
      obtain ⟨t, ht⟩ : ∃ t, t = cs[k] := ⟨_, rfl⟩
      obtain ⟨v, hv⟩ : ∃ v, v = vs[k] := ⟨_, rfl⟩
      rw [← ht] at zC hpf htz
      rw [← hv] at zV hpf
      obtain ⟨hck, hin, hb0, hb1, hgn⟩ := H.rest k hlt (Nat.le_refl _)
      have hok := hf ps[k] (List.getElem_mem hlt)
      have hrow := H.row
      have cells := fun i v (hi : i < 3) (hv : (ps[k].trio)[i]? = some v) => (hrow.cellAt (k * 3 + i) (by omega)).trans ((trios_at cur k i (by have := H.len; omega) hi).trans ((congrArg (fun p : RD => (p.trio)[i]?) hck).trans hv))
      have z0 : wr.cell? ⟨g, k * 3, none⟩ = some (.slice ps[k].a ps[k].d.cells.length ps[k].c) := cells 0 _ (by decide) rfl
      have z1 : wr.cell? ⟨g, k * 3 + 1, none⟩ = some (.slice ps[k].b ps[k].d.waits.length ps[k].e) := cells 1 _ (by decide) rfl
      have z2 : wr.cell? ⟨g, k * 3 + 2, none⟩ = some (.bool ps[k].d.gone) := cells 2 _ (by decide) rfl
      have hdk := HDK.out k hlt
      have hki : (k : Int) < (ps.length : Int) := by omega
      have hkci : (k : Int) < (cs.length : Int) := by omega
      have hkvi : (k : Int) < (vs.length : Int) := by omega
      by_cases hst : ps[k].d.gone = true ∨ v = false
      · have hput : putD ps[k].d n t v = some ps[k].d := if_pos hst
        rw [hput] at hpf
        obtain ⟨hxk, hX2⟩ := List.getElem?_eq_some_iff.1 (hxs _ hpf)
        have hpn := partT_same (T := X) (R := dks ps) HXL.out (k := k) (by rw [dks_len]; exact hlt) (by rw [hX2, hdk])
        have HH := Lib.hid (H.skip hlt HAP.out)
        have HPN := Lib.hid hpn
        have HOK2 : Hid (okTo (dks ps) n cs vs (k + 1)) := Lib.hid (fun j hj => by
          by_cases e : j = k
          · subst e; rw [hpf]; rfl
          · exact HOKS.out j (by omega))
        obtain ⟨P, hP⟩ : ∃ P, P = ps[k] := ⟨_, rfl⟩
        rw [← hP] at z0 z1 z2 hst
        obtain ⟨gone, hgo⟩ : ∃ gone, gone = P.d.gone := ⟨_, rfl⟩
        rw [← hgo] at z2 hst
        clear hput hpf hX2 hpn hok hP hrow cells hck hin hxs hdk hgo ht hv H
        rcases hst with hst | hst
        · rw [hst] at z2
          clear hst
          go_wp2_with fail
          go_roundw
          case rel => exact ⟨k + 1, cur, by omega, by go_num, by rw [HD.out, HPN.out], HOK2.out, HH.out, b0, b1, GB⟩
          case measure => simp [intOf]; omega
        · rw [hst] at zV
          clear hst
          cases gone
          all_goals
            go_wp2_with fail
            go_roundw
            case rel => exact ⟨k + 1, cur, by omega, by go_num, by rw [HD.out, HPN.out], HOK2.out, HH.out, b0, b1, GB⟩
            case measure => simp [intOf]; omega
      · have hg0 : ps[k].d.gone = false := by
          cases h : ps[k].d.gone
          · rfl
          · exact absurd (.inl h) hst
        have hv1 : v = true := by
          cases h : v
          · exact absurd (.inr h) hst
          · rfl
        have HNX := fun W' gk hgk hgr q hq hqb => Half.next H hlt HAP.out (W' := W') (gk := gk) hgk hgr (q := q) hq hqb
        have hin2 := hin.own
        obtain ⟨gk, hgk⟩ : ∃ gk, ps[k].l ≤ gk ∧ gk < ps[k].h := by
          obtain ⟨tt, u1, u2, ee, htt, ⟨q1, t1⟩, ⟨q2, t2⟩⟩ := hin
          simp only [RD.val, Value.agg.injEq, Array.mk.injEq, List.cons.injEq, and_true] at ee
          obtain ⟨rfl, rfl⟩ := ee
          obtain ⟨gk, hgk⟩ := own_addr q1 (by rw [hok.1]; omega)
          rw [hgk] at q1 t1
          exact ⟨gk, (q1.lt gk rfl).1, t1 gk rfl⟩
        have hwk : ps[k].l ≤ wr.heap.size := by omega
        have hinb : ∀ b, ps[k].a = some ⟨b, 0, none⟩ → ps[k].l ≤ b ∧ b < ps[k].h := fun b hb => by
          obtain ⟨tt, u1, u2, ee, htt, ⟨q1, t1⟩, ⟨q2, t2⟩⟩ := hin
          simp only [RD.val, Value.agg.injEq, Array.mk.injEq, List.cons.injEq, and_true] at ee
          obtain ⟨rfl, rfl⟩ := ee
          rw [hb] at q1 t1
          exact ⟨(q1.lt b rfl).1, t1 b rfl⟩
        have hgwr : g < wr.heap.size := (hrow.lt g rfl).2
        have fz0 := hrow.frozenAt (k * 3)
        have fz1 := hrow.frozenAt (k * 3 + 1)
        have fz2 := hrow.frozenAt (k * 3 + 2)
        rw [hv1] at zV
        have hbCw : bC < wr.heap.size := by have := GB.size; omega
        by_cases hT : Take ps[k].d n t ∧ ps[k].d.waits.length < 120
        · have hput : putD ps[k].d n t v = some ⟨ps[k].d.cells, ps[k].d.waits ++ [⟨n, t⟩], ps[k].d.gone⟩ := by
            unfold putD
            rw [if_neg hst, if_pos hT]
          rw [hput] at hpf
          obtain ⟨hxk, hX2⟩ := List.getElem?_eq_some_iff.1 (hxs _ hpf)
          have hpn := partT_next (T := X) (R := dks ps) HXL.out (k := k) (by rw [dks_len]; exact hlt)
          rw [hX2] at hpn
          have HOK2 : Hid (okTo (dks ps) n cs vs (k + 1)) := Lib.hid (fun j hj => by
            by_cases e : j = k
            · subst e; rw [hpf]; rfl
            · exact HOKS.out j (by omega))
          have hS := fun W (hW : Below wr.heap.size wr W) => l3write_put ps[k].l ps[k].a ps[k].b ps[k].c ps[k].e ps[k].d n t W (Nat.le_trans hwk hW.size) (hin2.below hW) htz hT
          obtain ⟨P, hP⟩ : ∃ P, P = ps[k] := ⟨_, rfl⟩
          rw [← hP] at z0 z1 z2 hS hpn HNX hgk hinb hb0 hb1 hgn hg0
          obtain ⟨D, hDD⟩ : ∃ D : Dk, D = ⟨P.d.cells, P.d.waits ++ [⟨n, t⟩], P.d.gone⟩ := ⟨_, rfl⟩
          have hDc : P.d.cells.length = D.cells.length := by rw [hDD]
          rw [← hDD] at hS hpn
          rw [hDc] at z0 hS
          rw [hg0] at z2
          have hDg : D.gone = false := by rw [hDD]; exact hg0
          have HPN := Lib.hid hpn
          have HNX' := Lib.hid HNX
          have HGK := Lib.hid hgk
          have HIB := Lib.hid hinb
          have HB0 := Lib.hid hb0
          have HB1 := Lib.hid hb1
          have HRW := Lib.hid hrow
          rw [hg0] at hS
          clear HNX hpn hgk hinb hb0 hb1 hgn hg0 hT hput hpf hX2 hxs hxk hok hP hDD hDc hrow cells hck hin hin2 hst hdk ht hv hv1 htz H hwk
          go_wp2_with fail
          have bW := (Below.refl wr.heap.size wr)
          have bN := Bx.new wr 60 (.slice none 0 0) (.slice none 0 0) (.bool false)
          go_upto_region 5 with fail
          go_cut [11, 12] (fun s1 s2 wx => s2 = .bool true ∧ ∃ bx b' e', s1 = .pointer (some ⟨bx, 0, none⟩) ∧ wr.heap.size ≤ bx ∧ wr.heap.size ≤ b' ∧ Bx wx bx 60 (.slice P.a D.cells.length P.c) (.slice (some ⟨b', 0, none⟩) D.waits.length e') (.bool false) ∧ DkOwn wx P.l (.agg #[.slice P.a D.cells.length P.c, .slice (some ⟨b', 0, none⟩) D.waits.length e', .bool false]) D ∧ Below wr.heap.size wr wx)
          case first =>
            first
              | go_region_with (go_at_call 89; first
                | (refine (hS _ bW.drew).mono ?_; rintro r w2 ⟨b', e', rfl, hv, hb2, hnb⟩)
                | (refine (hS _ (bel_new bW (.cells #[.slice none 0 0, .slice none 0 0, .bool false] 60)).drew).mono ?_; rintro r w2 ⟨b', e', rfl, hv, hb2, hnb⟩; obtain ⟨⟨y0, y1, y2⟩, f0, f1, f2⟩ := (Bx.below (W := (wr.alloc (.cells #[.slice none 0 0, .slice none 0 0, .bool false] 60)).drew) bN hb2).cells)
                | (refine (hS _ (bel_new bW.drew (.cells #[.slice none 0 0, .slice none 0 0, .bool false] 60))).mono ?_; rintro r w2 ⟨b', e', rfl, hv, hb2, hnb⟩; obtain ⟨⟨y0, y1, y2⟩, f0, f1, f2⟩ := (Bx.below (W := wr.drew.alloc (.cells #[.slice none 0 0, .slice none 0 0, .bool false] 60)) bN hb2).cells))
              | fail "region"
            all_goals go_wp2_with fail
            all_goals (try go_simp)
            all_goals go_meet
            all_goals rw [hDg] at hv
            all_goals first
              | exact ⟨rfl, _, b', e', rfl, hb2.size, hnb, Bx.new w2 60 _ _ _, hv.below (bel_new (Below.refl _ _) _), bel_new (bel_then bW.drew hb2) _⟩
              | exact ⟨rfl, _, b', e', rfl, Nat.le_refl _, Nat.le_trans (by show wr.heap.size ≤ (wr.alloc (.cells #[.slice none 0 0, .slice none 0 0, .bool false] 60)).heap.size; simp) hnb, (((Bx.below (W := (wr.alloc (.cells #[.slice none 0 0, .slice none 0 0, .bool false] 60)).drew) bN hb2).set0 _).set1 _).set2 _, hv.box2 (Bx.below (W := (wr.alloc (.cells #[.slice none 0 0, .slice none 0 0, .bool false] 60)).drew) bN hb2) _ _ _, bel_box (bel_then (bel_new bW _).drew hb2) (Nat.le_refl _) _ _ _⟩
              | exact ⟨rfl, _, b', e', rfl, Nat.le_refl _, Nat.le_trans (by show wr.heap.size ≤ (wr.alloc (.cells #[.slice none 0 0, .slice none 0 0, .bool false] 60)).heap.size; simp) hnb, (((Bx.below (W := wr.drew.alloc (.cells #[.slice none 0 0, .slice none 0 0, .bool false] 60)) bN hb2).set0 _).set1 _).set2 _, hv.box2 (Bx.below (W := wr.drew.alloc (.cells #[.slice none 0 0, .slice none 0 0, .bool false] 60)) bN hb2) _ _ _, bel_box (bel_then (bel_new bW.drew _) hb2) (Nat.le_refl _) _ _ _⟩
          case rest =>
            obtain ⟨rfl, bx, b', e', rfl, hbx, hnb, hBx, hv, hb⟩ := hcut
            obtain ⟨w3, e3, hb⟩ : ∃ W, W = _ ∧ Below wr.heap.size wr W := ⟨_, rfl, hb⟩
            subst e3
            obtain ⟨⟨y0, y1, y2⟩, f0, f1, f2⟩ := hBx.cells
            have x0' := (hb.cell (p := ⟨w.heap.size, 0, none⟩) hxl).trans x0
            have z0' := (hb.cell (p := ⟨g, k * 3, none⟩) hgwr).trans z0
            have z1' := (hb.cell (p := ⟨g, k * 3 + 1, none⟩) hgwr).trans z1
            have z2' := (hb.cell (p := ⟨g, k * 3 + 2, none⟩) hgwr).trans z2
            have hrow3 := own_bel HRW.out hb
            have fz0' := hrow3.frozenAt (k * 3)
            have fz1' := hrow3.frozenAt (k * 3 + 1)
            have fz2' := hrow3.frozenAt (k * 3 + 2)
            obtain ⟨q, hq⟩ : ∃ q : RD, q = ⟨P.a, P.c, some ⟨b', 0, none⟩, e', D, 0, 0⟩ := ⟨_, rfl⟩
            have NX := HNX'.out w3 gk HGK.out (below_grown hb (some gk)) q (by rw [hq]; show DkIn w3 base w3.heap.size (.agg #[.slice P.a D.cells.length P.c, .slice (some ⟨b', 0, none⟩) D.waits.length e', .bool D.gone]) D; rw [hDg]; exact hv.in_.wide HB0.out (Nat.le_refl _)) (fun b hbb => by
              rw [hq] at hbb
              rcases hbb with e | e
              · exact .inl (HIB.out b e)
              · injection e with e; injection e with e; subst e; exact .inr hnb)
            have HD2 : Hid (dks (cur.set k q) = partT X (dks ps) (k + 1)) := Lib.hid (by rw [dks_set, HD.out, ← HPN.out, hq])
            have e1 : q.a = P.a ∧ q.c = P.c ∧ q.b = some ⟨b', 0, none⟩ ∧ q.e = e' ∧ q.d = D := by rw [hq]; exact ⟨rfl, rfl, rfl, rfl, rfl⟩
            simp only [e1.1, e1.2.1, e1.2.2.1, e1.2.2.2.1, e1.2.2.2.2, hDg] at NX
            have HN2 := Lib.hid NX
            have n0 : w.heap.size ≠ g := by omega
            have n1 : w.heap.size + 1 ≠ g := by omega
            have C0 := Lib.hid ((((b0.below hb).set (p := ⟨g, k * 3, none⟩) n0 (.slice P.a D.cells.length P.c)).set (p := ⟨g, k * 3 + 1, none⟩) n0 (.slice (some ⟨b', 0, none⟩) D.waits.length e')).set (p := ⟨g, k * 3 + 2, none⟩) n0 (.bool false))
            have C1 := Lib.hid ((((b1.below hb).set (p := ⟨g, k * 3, none⟩) n1 (.slice P.a D.cells.length P.c)).set (p := ⟨g, k * 3 + 1, none⟩) n1 (.slice (some ⟨b', 0, none⟩) D.waits.length e')).set (p := ⟨g, k * 3 + 2, none⟩) n1 (.bool false))
            have C2 := Lib.hid (grown_trans (grown_trans (grown_trans (grown_trans GB (below_grown hb _)) (grown_set w3 ⟨g, k * 3, none⟩ (.slice P.a D.cells.length P.c))) (grown_set _ ⟨g, k * 3 + 1, none⟩ (.slice (some ⟨b', 0, none⟩) D.waits.length e'))) (grown_set _ ⟨g, k * 3 + 2, none⟩ (.bool false)))
            clear NX e1 hq hv hb hBx b0 b1 GB x0 z0 z1 z2 fz0 fz1 fz2 hS bW bN hDg zC zV hrow3
            go_wp2_with fail
            go_roundw
            case rel => exact ⟨k + 1, _, by omega, by go_num, HD2.out, HOK2.out, HN2.out, C0.out, C1.out, C2.out⟩
            case measure => simp [intOf]; omega
        · have hput : putD ps[k].d n t v = none := by
            unfold putD
            rw [if_neg hst, if_neg hT]
          rw [hput] at hpf
          have hNO : Hid (¬ PutOk (dks ps) n cs vs) := Lib.hid (fun h => by
            have := h k (by rw [dks_len]; exact hlt)
            rw [hpf] at this
            cases this)
          have hS := fun W (hW : Below wr.heap.size wr W) => l3write_no ps[k].l ps[k].a ps[k].b ps[k].c ps[k].e ps[k].d n t W (hin2.below hW) hok htz hT
          obtain ⟨P, hP⟩ : ∃ P, P = ps[k] := ⟨_, rfl⟩
          rw [← hP] at z0 z1 z2 hS hg0
          have hPg := Lib.hid hg0
          obtain ⟨gone, hgo⟩ : ∃ gone, gone = P.d.gone := ⟨_, rfl⟩
          unfold OPost2 at hS
          rw [← hgo] at z2
          simp only [← hgo] at hS
          rw [← hgo] at hg0
          subst hg0
          have gsz := GB.size
          have BB : Below base w wr := ⟨GB.os, GB.tape, GB.output, GB.size, fun b hb => GB.block b (by omega) (fun e => by cases e; omega)⟩
          have hbs : base ≤ w.heap.size + 1 := by omega
          have hbw : base ≤ wr.heap.size := by omega
          clear HNX hgk hinb hb0 hb1 hgn hT hput hpf hxs hok hP hrow cells hck hin hin2 hst hdk ht hv hv1 htz H hwk hgo hPg
          go_wp2_with fail
          have bW := (Below.refl wr.heap.size wr)
          have bN := Bx.new wr 60 (.slice none 0 0) (.slice none 0 0) (.bool false)
          go_upto_region 5 with fail
          go_cut [12] (fun s2 wx => s2 = .bool false ∧ Below wr.heap.size wr wx)
          case first =>
            first
              | go_region_with (go_at_call 89; first
                | (refine (hS _ bW.drew).mono ?_; rintro r w2 ⟨A', c', B', e', rfl, hv, hb2⟩)
                | (refine (hS _ (bel_new bW (.cells #[.slice none 0 0, .slice none 0 0, .bool false] 60)).drew).mono ?_; rintro r w2 ⟨A', c', B', e', rfl, hv, hb2⟩; obtain ⟨⟨y0, y1, y2⟩, f0, f1, f2⟩ := (Bx.below (W := (wr.alloc (.cells #[.slice none 0 0, .slice none 0 0, .bool false] 60)).drew) bN hb2).cells)
                | (refine (hS _ (bel_new bW.drew (.cells #[.slice none 0 0, .slice none 0 0, .bool false] 60))).mono ?_; rintro r w2 ⟨A', c', B', e', rfl, hv, hb2⟩; obtain ⟨⟨y0, y1, y2⟩, f0, f1, f2⟩ := (Bx.below (W := wr.drew.alloc (.cells #[.slice none 0 0, .slice none 0 0, .bool false] 60)) bN hb2).cells))
              | fail "region"
            all_goals go_wp2_with fail
            all_goals (try go_simp)
            all_goals go_meet
            all_goals first
              | exact ⟨rfl, bel_new (bel_then bW.drew hb2) _⟩
              | exact ⟨rfl, bel_box (bel_then (bel_new bW _).drew hb2) (Nat.le_refl _) _ _ _⟩
              | exact ⟨rfl, bel_box (bel_then (bel_new bW.drew _) hb2) (Nat.le_refl _) _ _ _⟩
          case rest =>
            obtain ⟨rfl, hb⟩ := hcut
            obtain ⟨w3, e3, hb⟩ : ∃ W, W = _ ∧ Below wr.heap.size wr W := ⟨_, rfl, hb⟩
            subst e3
            obtain ⟨y0, f0⟩ := (b1.below hb).cells
            have B3 := BB.trans (hb.mono hbw)
            have G3 := grown_trans GB (below_grown hb _)
            clear hS bW bN zC zV x0 z0 z1 z2
            go_wp2_with fail
            exact bodyPost_ret (v := .tuple #[.agg #[.slice none 0 0], .bool false]) (by simp [results, Try.f49, go_sem, y0]) rfl (.inr ⟨hNO.out, rfl, B3.setCell (p := ⟨w.heap.size + 1, 0, none⟩) hbs _, grown_new G3 (p := ⟨w.heap.size + 1, 0, none⟩) (Nat.le_succ _) _⟩)
    · have hke : k = ps.length := by omega
      subst hke
      have he := H.end_
      have hcl2 := H.len
      obtain ⟨y0, f0⟩ := b1.cells
      have hdd : dks cur = X := by rw [HD.out, ← dks_len ps, partT_all HXL.out]
      have HE := Lib.hid he
      have HDD := Lib.hid hdd
      have HCL2 := Lib.hid hcl2
      have gsz := GB.size
      have BB : Below base w wr := ⟨GB.os, GB.tape, GB.output, GB.size, fun b hb => GB.block b (by omega) (fun e => by cases e; omega)⟩
      have hbs : base ≤ w.heap.size + 1 := by omega
      clear he hdd hcl2 H
      go_wp2_with fail
      refine bodyPost_ret (v := .tuple #[.agg #[.slice (some ⟨g, 0, none⟩) ps.length c], .bool true]) (by simp [results, Try.f49, go_sem, y0]) rfl (.inl ⟨fun j hj => HOKS.out j (by rwa [dks_len] at hj), cur, some ⟨g, 0, none⟩, c, by rw [HCL2.out], by rw [HDD.out, HX.out], ((HE.out.box b1 (by decide) (by decide) (by decide) (by decide) _).wide (Nat.le_refl _) (Nat.le_of_eq (size_put _ _ _).symm)), BB.setCell (p := ⟨w.heap.size + 1, 0, none⟩) hbs _, grown_new GB (p := ⟨w.heap.size + 1, 0, none⟩) (Nat.le_succ _) _⟩)
end Go.Proofs.Ytndckncoipkhaaa
