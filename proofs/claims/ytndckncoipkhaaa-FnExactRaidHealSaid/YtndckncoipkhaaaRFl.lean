/-
  Flushing a set of disks.
-/
import Derived.Test.YtndckncoipkhaaaRHf
import Derived.Test.YtndckncoipkhaaaKC
namespace Go.Proofs.Ytndckncoipkhaaa
open Go.RowKit

def flushR (R : List Dk) : List Dk := if RsOk R then R.map flushD else []
theorem flush_eq {d : Dk} (h : DkOk d) : flushD d = ⟨st d.waits 1152921504606846975 (-1) d.cells d.waits.length, [], d.gone⟩ := flushD_yes h
theorem dks_set (ps : List RD) (k : Nat) (q : RD) : dks (ps.set k q) = (dks ps).set k q.d := by simp [dks, List.map_set]
/-- The first k disks are changed by a function. -/
def part (F : Dk → Dk) (R : List Dk) (k : Nat) : List Dk := (R.map F).take k ++ R.drop k
theorem part_zero (F : Dk → Dk) (R : List Dk) : part F R 0 = R := by simp [part]
theorem part_all (F : Dk → Dk) (R : List Dk) : part F R R.length = R.map F := by
  unfold part
  rw [List.drop_length, List.append_nil, List.take_of_length_le (by simp)]
theorem part_next (F : Dk → Dk) {R : List Dk} {k : Nat} (h : k < R.length) : (part F R k).set k (F R[k]) = part F R (k + 1) := by
  unfold part
  have hl : ((R.map F).take k).length = k := by simp; omega
  rw [List.set_append_right _ _ (by omega), hl, Nat.sub_self, List.drop_eq_getElem_cons h, List.set_cons_zero, List.take_succ_eq_append_getElem (by simpa using h), List.append_assoc]
  simp

theorem own_box {W : World} {base h : Nat} {t tb : TypeId} {sz n : Nat} {v x : Value} {xs : List Value} (ho : W.ownsRow base t sz v n xs) (hb : B1 W h tb x) (ht : t ≠ tb) : v.ownBlock ≠ some h := by
  rcases ho.2 with ⟨rfl, _⟩ | ⟨g', cap, cur, rfl, _, hgg, _⟩
  · simp [Value.ownBlock]
  · intro e
    simp only [Value.ownBlock, Option.some.injEq] at e
    subst e
    have b' : W.heap[g']? = some (.cells #[x] tb (0, 0)) := hb
    rw [hgg] at b'
    injection b' with b'
    injection b' with _ hh
    exact ht hh
theorem RKeep.box {W : World} {lo hi h : Nat} {tb : TypeId} {u x : Value} {ps : List RD} (k : RKeep W lo hi u ps) (hb : B1 W h tb x) (h1 : (60 : TypeId) ≠ tb) (h2 : (9 : TypeId) ≠ tb) (h3 : (84 : TypeId) ≠ tb) (h4 : (94 : TypeId) ≠ tb) (y : Value) : RKeep (W.setCell ⟨h, 0, none⟩ y) lo hi u ps := by
  have on : Only h (h + 1) W (W.setCell ⟨h, 0, none⟩ y) := Only.of_grown (grown_set W ⟨h, 0, none⟩ y) (fun b e => by cases e; exact ⟨Nat.le_refl _, Nat.lt_succ_self _⟩)
  have ne : ∀ {base : Nat} {t : TypeId} {sz n : Nat} {v : Value} {xs : List Value}, W.ownsRow base t sz v n xs → t ≠ tb → ∀ b, v.ownBlock = some b → ¬ (h ≤ b ∧ b < h + 1) := fun ho ht b e hlt => own_box ho hb ht (by rw [e]; congr 1; omega)
  refine ⟨⟨own_only k.1.1 on (ne k.1.1 h1), k.1.2⟩, fun p hp => ?_⟩
  obtain ⟨t, u1, u2, e, ht, a, b⟩ := k.2 p hp
  exact ⟨t, u1, u2, e, ht, ⟨own_only a.1 on (ne a.1 (by rcases ht with rfl | rfl <;> assumption)), a.2⟩, ⟨own_only b.1 on (ne b.1 h4), b.2⟩⟩

theorem size_put (W : World) (p : Addr) (x : Value) : (W.setCell p x).heap.size = W.heap.size := by simp [World.setCell]

set_option maxRecDepth 100000 in
set_option maxHeartbeats 8000000 in
theorem spec_flushes (base g c : Nat) (ps : List RD) (w : World) (hn : ps.length ≤ 1048576) (hf : ∀ p ∈ ps, DkOk p.d) (hbase : base ≤ w.heap.size) (hA : ROwn w base (.slice (some ⟨g, 0, none⟩) ps.length c) ps) :
    Calls Try.prog 65 #[.agg #[.slice (some ⟨g, 0, none⟩) ps.length c]] w fun r w' => ∃ cur : List RD, r = .returned (.agg #[.slice (some ⟨g, 0, none⟩) cur.length c]) ∧ dks cur = (dks ps).map flushD ∧ RKeep w' base w'.heap.size (.slice (some ⟨g, 0, none⟩) cur.length c) cur ∧ Below base w w' := by
  have bl : Below w.heap.size w ((w.alloc (.cells #[.slice (some ⟨g, 0, none⟩) ps.length c] 24)).alloc (.cells #[.slice none 0 0] 24)) := bel_new (bel_new (Below.refl _ _) _) _
  have H0 := (Half.start hA).below bl
  have b0 := (B1.new w 24 (.slice (some ⟨g, 0, none⟩) ps.length c)).alloc (.cells #[.slice none 0 0] 24)
  have b1 := B1.new (w.alloc (.cells #[.slice (some ⟨g, 0, none⟩) ps.length c] 24)) 24 (.slice none 0 0)
  rw [World.size_alloc] at b1
  have hgw : g < w.heap.size := (hA.1.lt g rfl).2
  have hgb : base ≤ g := (hA.1.lt g rfl).1
  have HAP := Lib.hid hA.2.apart
  have BL := bl.mono hbase
  clear hA bl
  go_enter Try.func65, Try.ntmps65
  go_wp2
  go_loopw [3] (fun i wr => ∃ (k : Nat) (cur : List RD), k ≤ ps.length ∧ i = .int .i64 k ∧ dks cur = part flushD (dks ps) k ∧ Half wr base g c k ps cur ∧ B1 wr w.heap.size 24 (.slice (some ⟨g, 0, none⟩) ps.length c) ∧ B1 wr (w.heap.size + 1) 24 (.slice none 0 0) ∧ Below base w wr) (fun i _ => ps.length - (intOf i).toNat)
  case atStart => exact ⟨0, ps, Nat.zero_le _, rfl, by rw [part_zero], H0, b0, b1, BL⟩
  case round =>
    clear H0 b0 b1 BL
    obtain ⟨k, cur, hk, rfl, hd, H, b0, b1, BB⟩ := hrel
    have HD := Lib.hid hd
    clear hd
    obtain ⟨x0, _⟩ := b0.cells
    have hxl := b0.lt
    have hxl1 := b1.lt
    by_cases hlt : k < ps.length
    · obtain ⟨hck, hin, hb0, hb1, hgn⟩ := H.rest k hlt (Nat.le_refl _)
      have hok := hf ps[k] (List.getElem_mem hlt)
      have hrow := H.row
      have cells := fun i v (hi : i < 3) (hv : (ps[k].trio)[i]? = some v) => (hrow.cellAt (k * 3 + i) (by omega)).trans ((trios_at cur k i (by have := H.len; omega) hi).trans ((congrArg (fun p : RD => (p.trio)[i]?) hck).trans hv))
      have z0 : wr.cell? ⟨g, k * 3, none⟩ = some (.slice ps[k].a ps[k].d.cells.length ps[k].c) := cells 0 _ (by decide) rfl
      have z1 : wr.cell? ⟨g, k * 3 + 1, none⟩ = some (.slice ps[k].b ps[k].d.waits.length ps[k].e) := cells 1 _ (by decide) rfl
      have z2 : wr.cell? ⟨g, k * 3 + 2, none⟩ = some (.bool ps[k].d.gone) := cells 2 _ (by decide) rfl
      have hsz := BB.size
      have hpk : (dks ps)[k]'(by rw [dks_len]; exact hlt) = ps[k].d := by simp [dks]
      have hpn := part_next flushD (R := dks ps) (k := k) (by rw [dks_len]; exact hlt)
      rw [hpk] at hpn
      have HNX := fun W' gk hgk hgr q hq hqb => Half.next H hlt HAP.out (W' := W') (gk := gk) hgk hgr (q := q) hq hqb
      have hin2 := hin.own
      obtain ⟨tt, u1, u2, hv, htt, ⟨q1, t1⟩, ⟨q2, t2⟩⟩ := hin
      obtain ⟨P, hP⟩ : ∃ P, P = ps[k] := ⟨_, rfl⟩
      rw [← hP] at z0 z1 z2 hok hb0 hb1 hgn hpn HNX hin2 hv q1 q2 t1 t2
      simp only [RD.val, Value.agg.injEq, Array.mk.injEq, List.cons.injEq, and_true] at hv
      obtain ⟨rfl, rfl⟩ := hv
      obtain ⟨gk, hgk⟩ := own_addr q1 (by rw [hok.1]; omega)
      have hgk1 : P.l ≤ gk ∧ gk < P.h := by
        rw [hgk] at q1 t1
        exact ⟨(q1.lt gk rfl).1, t1 gk rfl⟩
      have hwk : P.l ≤ wr.heap.size := by omega
      unfold RD.val at hin2
      rw [hgk] at z0 hin2
      have hS := l3flush P.l gk P.b P.c P.e P.d wr.drew hwk hin2 hok
      rw [← flush_eq hok] at hS
      obtain ⟨D, hDD⟩ : ∃ D, D = flushD P.d := ⟨_, rfl⟩
      rw [← hDD] at hS hpn
      have fz0 := hrow.frozenAt (k * 3)
      have fz1 := hrow.frozenAt (k * 3 + 1)
      have fz2 := hrow.frozenAt (k * 3 + 2)
      have hgne : g ≠ gk := fun e => hgn (by omega)
      have hg0 : w.heap.size ≠ gk := by
        have := b0.lt
        intro e
        have h1 : wr.heap[w.heap.size]? = some (.cells #[.slice (some ⟨g, 0, none⟩) ps.length c] 24 (0, 0)) := b0
        rcases q1.2 with ⟨e1, _⟩ | ⟨g', cap', cur', e1, _, hh, _⟩
        · rw [hgk] at e1; cases e1
        · rw [hgk] at e1
          cases e1
          rw [← e, h1] at hh
          injection hh with hh
          injection hh with _ ht
          rcases htt with rfl | rfl <;> exact absurd ht (by decide)
      have hg1 : w.heap.size + 1 ≠ gk := by
        intro e
        have h1 : wr.heap[w.heap.size + 1]? = some (.cells #[.slice none 0 0] 24 (0, 0)) := b1
        rcases q1.2 with ⟨e1, _⟩ | ⟨g', cap', cur', e1, _, hh, _⟩
        · rw [hgk] at e1; cases e1
        · rw [hgk] at e1
          cases e1
          rw [← e, h1] at hh
          injection hh with hh
          injection hh with _ ht
          rcases htt with rfl | rfl <;> exact absurd ht (by decide)
      have hgwr : g < wr.heap.size := by omega
      have hx0 : wr.heap.size > w.heap.size := hxl
      have HPN := Lib.hid hpn
      have HNX' := Lib.hid HNX
      have HGK := Lib.hid hgk1
      have HB0 := Lib.hid hb0
      clear HNX hpn hpk hrow cells hin2 q1 q2 t1 t2 hok hP hDD hck hgk hgk1
      go_wp2_with fail
      go_region_law (go_simp; go_at_call 101; refine hS.mono ?_; rintro r w2 ⟨c', b', e', rfl, hv, hgr, hnb⟩; have x0' := (hgr.cell_far ⟨w.heap.size, 0, none⟩ hxl (by simpa using hg0)).trans (show wr.drew.cell? ⟨w.heap.size, 0, none⟩ = _ from x0); have z0' := (hgr.cell_far ⟨g, k * 3, none⟩ hgwr (by simpa using hgne)).trans (show wr.drew.cell? ⟨g, k * 3, none⟩ = _ from z0); have z1' := (hgr.cell_far ⟨g, k * 3 + 1, none⟩ hgwr (by simpa using hgne)).trans (show wr.drew.cell? ⟨g, k * 3 + 1, none⟩ = _ from z1); have z2' := (hgr.cell_far ⟨g, k * 3 + 2, none⟩ hgwr (by simpa using hgne)).trans (show wr.drew.cell? ⟨g, k * 3 + 2, none⟩ = _ from z2); have fz0' := (hgr.frozen_far ⟨g, k * 3, none⟩ hgwr (by simpa using hgne)).trans (show wr.drew.frozen? ⟨g, k * 3, none⟩ = _ from fz0); have fz1' := (hgr.frozen_far ⟨g, k * 3 + 1, none⟩ hgwr (by simpa using hgne)).trans (show wr.drew.frozen? ⟨g, k * 3 + 1, none⟩ = _ from fz1); have fz2' := (hgr.frozen_far ⟨g, k * 3 + 2, none⟩ hgwr (by simpa using hgne)).trans (show wr.drew.frozen? ⟨g, k * 3 + 2, none⟩ = _ from fz2))
      all_goals
        have hgr2 : wr.grownBy w2 (some gk) := ⟨hgr.os, hgr.tape, hgr.output, hgr.size, hgr.block⟩
        have hnb2 : wr.heap.size ≤ b' := hnb
        obtain ⟨q, hq⟩ : ∃ q : RD, q = ⟨some ⟨gk, 0, none⟩, c', some ⟨b', 0, none⟩, e', D, 0, 0⟩ := ⟨_, rfl⟩
        have NX := HNX'.out w2 gk HGK.out hgr2 q (by rw [hq]; exact hv.in_.wide HB0.out (Nat.le_refl _)) (fun b hb => by
          rw [hq] at hb
          rcases hb with e | e
          · injection e with e; injection e with e; subst e; exact .inl HGK.out
          · injection e with e; injection e with e; subst e; exact .inr hnb2)
        have hc0 : B1 w2 w.heap.size 24 (.slice (some ⟨g, 0, none⟩) ps.length c) := (hgr2.block w.heap.size hxl (by simpa using hg0)).trans b0
        have hc1 : B1 w2 (w.heap.size + 1) 24 (.slice none 0 0) := (hgr2.block (w.heap.size + 1) hxl1 (by simpa using hg1)).trans b1
        have HD2 : Hid (dks (cur.set k q) = part flushD (dks ps) (k + 1)) := Lib.hid (by rw [dks_set, HD.out, ← HPN.out, hq])
        have B2' : Below base w w2 := BB.grown hgr2 (by omega) (fun b e => by cases e; have := HGK.out; have := HB0.out; omega)
        have e1 : q.a = some ⟨gk, 0, none⟩ ∧ q.c = c' ∧ q.b = some ⟨b', 0, none⟩ ∧ q.e = e' ∧ q.d = D := by rw [hq]; exact ⟨rfl, rfl, rfl, rfl, rfl⟩
        simp only [e1.1, e1.2.1, e1.2.2.1, e1.2.2.2.1, e1.2.2.2.2] at NX
        have HN2 := Lib.hid NX
        clear NX e1 hq hv
        go_wp2_with fail
        go_roundw
        case rel => exact ⟨k + 1, _, by omega, by go_num, HD2.out, HN2.out, ((hc0.set (p := ⟨g, k * 3, none⟩) (by show w.heap.size ≠ g; omega) _).set (p := ⟨g, k * 3 + 1, none⟩) (by show w.heap.size ≠ g; omega) _).set (p := ⟨g, k * 3 + 2, none⟩) (by show w.heap.size ≠ g; omega) _, ((hc1.set (p := ⟨g, k * 3, none⟩) (by show w.heap.size + 1 ≠ g; omega) _).set (p := ⟨g, k * 3 + 1, none⟩) (by show w.heap.size + 1 ≠ g; omega) _).set (p := ⟨g, k * 3 + 2, none⟩) (by show w.heap.size + 1 ≠ g; omega) _, ((B2'.setCell (p := ⟨g, k * 3, none⟩) hgb _).setCell (p := ⟨g, k * 3 + 1, none⟩) hgb _).setCell (p := ⟨g, k * 3 + 2, none⟩) hgb _⟩
        case measure => simp [intOf]; omega
    · have hke : k = ps.length := by omega
      subst hke
      have he := H.end_
      have hcl := H.len
      obtain ⟨y0, f0⟩ := b1.cells
      have hdd : dks cur = (dks ps).map flushD := by rw [HD.out, ← part_all]; simp [dks_len]
      have HE := Lib.hid he
      have HDD := Lib.hid hdd
      have HCL := Lib.hid hcl
      clear he hdd hcl H
      go_wp2_with fail
      refine bodyPost_ret (v := .agg #[.slice (some ⟨g, 0, none⟩) ps.length c]) (by simp [results, Try.f65, go_sem, y0]) rfl ⟨cur, by rw [HCL.out], HDD.out, ?_, BB.setCell (p := ⟨w.heap.size + 1, 0, none⟩) (by show base ≤ w.heap.size + 1; omega) _⟩
      exact ((HE.out.box b1 (by decide) (by decide) (by decide) (by decide) _).wide (Nat.le_refl _) (Nat.le_of_eq (size_put _ _ _).symm))
end Go.Proofs.Ytndckncoipkhaaa
