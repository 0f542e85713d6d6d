/-
  A power failure: the model's loop.
-/
import Derived.Test.YtimpdjlgfjehcaaCrS
import Derived.Deep.RegionHeld3
namespace Go.Proofs.Ytimpdjlgfjehcaa
open Go.RowKit

/-- A cell of the disk's box, and the box of a waiting write. -/
def HB (h3 h8 g c : Nat) (n : Nat) (x : ByteArray) (W : World) : Prop :=
  W.cell? ⟨h3, 0, none⟩ = some (.slice (some ⟨g, 0, none⟩) 64 c) ∧ W.cell? ⟨h8, 0, none⟩ = some (.int .i64 n) ∧ W.cell? ⟨h8, 1, none⟩ = some (.string x) ∧ h3 < W.heap.size ∧ h8 < W.heap.size
theorem HB.next {h3 h8 g c n : Nat} {x : ByteArray} {W W' : World} (h : HB h3 h8 g c n x W) (hb : Below W.heap.size W W') : HB h3 h8 g c n x W' := by
  obtain ⟨a, b, d, e, f⟩ := h
  exact ⟨(hb.cell (p := ⟨h3, 0, none⟩) e).trans a, (hb.cell (p := ⟨h8, 0, none⟩) f).trans b, (hb.cell (p := ⟨h8, 1, none⟩) f).trans d, Nat.lt_of_lt_of_le e hb.size, Nat.lt_of_lt_of_le f hb.size⟩
theorem HB.drew {h3 h8 g c n : Nat} {x : ByteArray} {W : World} (h : HB h3 h8 g c n x W) : HB h3 h8 g c n x W.drew := h
theorem HB.store {h3 h8 g c n : Nat} {x : ByteArray} {W : World} (h : HB h3 h8 g c n x W) (n3 : g ≠ h3) (n8 : g ≠ h8) (i : Nat) (u : Value) : HB h3 h8 g c n x (W.setCell ⟨g, i, none⟩ u) := by
  obtain ⟨a, b, d, e, f⟩ := h
  have q := fun (k : Nat) (j : Nat) (hk : g ≠ k) => World.cell?_of_block (a := ⟨k, j, none⟩) (Below.heap_setCell W ⟨g, i, none⟩ u k hk.symm)
  exact ⟨(q h3 0 n3).trans a, (q h8 0 n8).trans b, (q h8 1 n8).trans d, by simpa [World.setCell] using e, by simpa [World.setCell] using f⟩

def OPost (base : Nat) (D : Dk) (w : World) (r : Ending) (w' : World) : Prop :=
  ∃ A c B e, r = .returned (.agg #[.slice A D.cells.length c, .slice B D.waits.length e, .bool D.gone]) ∧ DkOwn w' base (.agg #[.slice A D.cells.length c, .slice B D.waits.length e, .bool D.gone]) D ∧ Below base w w'

theorem bel_boxB {b : Nat} {w W : World} {R : Nat} (h : Below b w W) (hR : b ≤ R) (x y z : Value) : Below b w (((W.setCell ⟨R, 0, none⟩ x).setCell ⟨R, 1, none⟩ y).setCell ⟨R, 2, none⟩ z) :=
  ((h.setCell (p := ⟨R, 0, none⟩) hR x).setCell (p := ⟨R, 1, none⟩) hR y).setCell (p := ⟨R, 2, none⟩) hR z
theorem cell_new2 (W : World) (t : TypeId) (a b : Value) : (W.alloc (.cells #[a, b] t)).cell? ⟨W.heap.size, 0, none⟩ = some a ∧ (W.alloc (.cells #[a, b] t)).cell? ⟨W.heap.size, 1, none⟩ = some b := by
  have h := heap_alloc_new W (.cells #[a, b] t)
  generalize W.alloc (.cells #[a, b] t) = V at h ⊢
  simp [World.cell?, h]

set_option maxRecDepth 100000 in
set_option maxHeartbeats 4000000 in
theorem l3crash (base : Nat) (A B : Option Addr) (c e : Nat) (d : Dk) (mask tear : Int) (w : World) (hbase : base ≤ w.heap.size) (hA : DkOwn w base (.agg #[.slice A d.cells.length c, .slice B d.waits.length e, .bool d.gone]) d) (hok : DkOk d) (h0 : 0 ≤ mask) (h1 : mask ≤ 9223372036854775807) :
    Calls Try.prog 28 #[.agg #[.slice A d.cells.length c, .slice B d.waits.length e, .bool d.gone], .int .i64 mask, .int .i64 tear] w (OPost base ⟨st d.waits mask tear d.cells d.waits.length, [], d.gone⟩ w) := by
  obtain ⟨tt, htt, o1, o2⟩ := hA.rows
  clear hA
  obtain ⟨cs, ws, gone⟩ := d
  obtain ⟨h64, h120, _, hsm, hws⟩ := hok
  simp only at o1 o2 h64 h120 hsm hws ⊢
  rw [h64] at o1 ⊢
  obtain ⟨g, rfl⟩ := own_addr o1 (by omega)
  have hlen := fun k => st_len ws mask tear cs k
  rw [h64] at hlen
  have hsmall := fun k => st_small (mask := mask) (tear := tear) hsm hws k
  have bl : Below w.heap.size w ((w.alloc (.cells #[.slice (some ⟨g, 0, none⟩) 64 c, .slice B ws.length e, .bool gone] 26)).alloc (.cells #[.slice none 0 0, .slice none 0 0, .bool false] 26)) := bel_new (bel_new (Below.refl _ _) _) _
  have K0 : CrK base tt g c B e ws gone w ((w.alloc (.cells #[.slice (some ⟨g, 0, none⟩) 64 c, .slice B ws.length e, .bool gone] 26)).alloc (.cells #[.slice none 0 0, .slice none 0 0, .bool false] 26)) cs :=
    ⟨TwoB.bx1 w _ _ _, TwoB.bx2 w _ _ _, own_bel o1 bl, own_bel o2 bl, bl.mono hbase⟩
  have hwl := fun k (hk : k < ws.length) => hws ws[k] (List.getElem_mem hk)
  clear o1 o2 bl hws hsm
  go_enter Try.func28, Try.ntmps28
  go_wp2
  go_loopw [7] (fun i wr => ∃ k : Nat, k ≤ ws.length ∧ i = .int .i64 k ∧ CrK base tt g c B e ws gone w wr (st ws mask tear cs k)) (fun i _ => ws.length - (intOf i).toNat)
  case atStart => exact ⟨0, Nat.zero_le _, rfl, K0⟩
  case round =>
    clear K0
    obtain ⟨k, hk, rfl, K⟩ := hrel
    by_cases hlt : k < ws.length
    · obtain ⟨⟨x0, x1, x2⟩, _⟩ := K.b3.cells
      obtain ⟨BB, ee, hBe, lw⟩ := own_lies K.wts
      obtain ⟨rfl, rfl⟩ : B = BB ∧ e = ee := by simpa using hBe
      obtain ⟨b, off, rfl, hb, y0, y1⟩ := lw.wt k hlt
      obtain ⟨hn0, hn63, ht200⟩ := hwl k hlt
      have hstep := st_next ws mask tear cs k hlt
      obtain ⟨n, hn⟩ : ∃ n : Nat, ws[k].num = (n : Int) := ⟨ws[k].num.toNat, by omega⟩
      obtain ⟨x, hx⟩ : ∃ x, ws[k].text = x := ⟨_, rfl⟩
      have hst := hlen k
      have hsk := hsmall k
      have KN : CrK base tt g c _ e ws gone w (wr.alloc (.cells #[.int .i64 n, .string x] 32)) (st ws mask tear cs k) := K.below (bel_new (Below.refl _ _) _) hbase
      have hlt' : (k : Int) < (ws.length : Int) := by omega
      obtain ⟨j, q, hj, hq0, hq1, hbit, ht60, hm60, hdiv, hq2⟩ := bit_nums mask k h0 h1
      have hs : mask / 2 ^ ((j : Int)).toNat = q := by rw [Int.toNat_natCast]; exact hdiv
      have hj0 : (0 : Int) ≤ (j : Int) := by omega
      have hj1 : (j : Int) ≤ 64 := by omega
      rw [hn] at hn63 y0
      rw [hx] at ht200 y1
      have hn64 : (n : Int) < 64 := by omega
      have hn64' : n < 64 := by omega
      have hge := K.row.lt g rfl
      have hg3 : g ≠ w.heap.size := fun e => own_ne_box K.row K.b3 (by rcases htt with rfl | rfl <;> decide) (by rw [e]; rfl)
      have hcN : (wr.alloc (.cells #[.int .i64 n, .string x] 32)).cell? ⟨g, n, none⟩ = some (.string ((st ws mask tear cs k)[n]'(by omega))) := by
        rw [KN.row.cellAt n (by omega)]
        exact strCells_at _ n _
      have hfN := KN.row.frozenAt n
      obtain ⟨⟨z0, z1, z2⟩, _⟩ := KN.b3.cells
      have hgw : g < wr.heap.size := hge.2
      have KM := KN.store htt n x
      rw [World.setCell_alloc_past _ _ _ _ hgw] at KM
      have hw1 := IntWalk.i64_in ((k : Int) + 1) (by omega)
      obtain ⟨old, hold⟩ : ∃ old, old = (st ws mask tear cs k)[n]'(by omega) := ⟨_, rfl⟩
      rw [← hold] at hcN
      by_cases hb1 : q % 2 = 1
      · have hb2 : (q % 2 == 1) = true := by simpa using hb1
        rw [stp_bit (by rw [hbit]; simpa using hb1), hn, hx, Int.toNat_natCast] at hstep
        have HST := Lib.hid hstep
        clear hstep hbit hold hsk hst hn hx hwl hsmall hlen K KN h0 h1 h120
        go_wp2_with fail
        go_roundw
        case rel => exact ⟨k + 1, by omega, by go_num, by rw [HST.out]; exact KM⟩
        case measure => simp [intOf]; omega
      · have hb2 : (q % 2 == 1) = false := by simpa using hb1
        have hbf : bitM mask k = false := by rw [hbit]; simpa using hb1
        clear KM
        by_cases hte : (k : Int) = tear
        · rw [stp_tear hbf hte, hn, hx, Int.toNat_natCast, List.getD_eq_getElem?_getD, List.getElem?_eq_getElem (by omega), ← hold] at hstep
          simp only [Option.getD_some] at hstep
          have ho200 : old.size ≤ 200 := by rw [hold]; exact hsk _ (List.getElem_mem _)
          have hT := fun W => spec_torn old x W ho200 ht200
          obtain ⟨z, hz⟩ : ∃ z, z = torn old x := ⟨_, rfl⟩
          rw [← hz] at hT hstep
          subst hte
          have HST := Lib.hid hstep
          have hb0 : HB w.heap.size wr.heap.size g c n x (wr.alloc (.cells #[.int .i64 n, .string x] 32)) := ⟨z0, (cell_new2 _ _ _ _).1, (cell_new2 _ _ _ _).2, by have := KN.b3.lt; omega, by simp⟩
          have hbd := hb0.drew
          have hg8 : g ≠ wr.heap.size := by omega
          have HK := Lib.hid KN
          clear hstep hbit hold hsk hst hn hx hwl hsmall hlen K KN h0 h1 h120 hz ho200
          go_upto_region 8 with fail
          obtain ⟨WN, hWN⟩ : ∃ W, W = wr.alloc (.cells #[.int .i64 n, .string x] 32) := ⟨_, rfl⟩
          rw [← hWN] at hb0 hbd z0 hcN hfN HK ⊢
          clear hWN z1 z2 x0 x1 x2 y0 y1 lw hb hlt' hm60 ht60 hdiv hq2 hs hj0 hj1 hb1 hb2 hbf hge
          have ho := HK.out.row
          have hgN : g < WN.drew.heap.size := (ho.lt g rfl).2
          have hod : WN.drew.ownsRow base tt 1 (.slice (some ⟨g, 0, none⟩) 64 c) 64 (strCells (st ws mask k cs k)) := ho
          refine wp_region_held_drew (S := (fun W => W.cell? ⟨w.heap.size, 0, none⟩ = some (.slice (some ⟨g, 0, none⟩) 64 c) ∧ W.cell? ⟨wr.heap.size, 0, none⟩ = some (.int .i64 n) ∧ W.cell? ⟨wr.heap.size, 1, none⟩ = some (.string x) ∧ w.heap.size < W.heap.size ∧ wr.heap.size < W.heap.size)) (by kernel_rfl) (show HB w.heap.size wr.heap.size g c n x _ from hbd) (fun hHeld => ?_)
          refine wpAnyH_take (i := 0) (v := ?v0) rfl (by kernel_rfl) (by kernel_rfl) (by kernel_rfl) (fun _ _ _ h => h) (Or.inl ⟨by rfl, ?hy0⟩) (by assumption) ?rest0
          case hy0 => (intro W hSw; (try dsimp only at hSw); go_simp <;> with_reducible rfl)
          try simp only [Act.put, List.setIfInBounds_toArray, List.set_cons_zero, List.set_cons_succ]
          refine wpAnyH_take (i := 1) (v := ?v1) rfl (by kernel_rfl) (by kernel_rfl) (by kernel_rfl) (fun _ _ _ h => h) (Or.inl ⟨by rfl, ?hy1⟩) (by assumption) ?rest1
          case hy1 => (intro W hSw; (try dsimp only at hSw); go_simp <;> with_reducible rfl)
          try simp only [Act.put, List.setIfInBounds_toArray, List.set_cons_zero, List.set_cons_succ]
          refine wpAnyH_take (i := 2) (v := ?v2) rfl (by kernel_rfl) (by kernel_rfl) (by kernel_rfl) (fun _ _ _ h => h) (Or.inl ⟨by rfl, ?hy2⟩) (by assumption) ?rest2
          case hy2 => (intro W hSw; (try dsimp only at hSw); go_simp <;> with_reducible rfl)
          try simp only [Act.put, List.setIfInBounds_toArray, List.set_cons_zero, List.set_cons_succ]
          refine wpAnyH_take (i := 3) (v := ?v3) rfl (by kernel_rfl) (by kernel_rfl) (by kernel_rfl) (fun _ _ _ h => h) (Or.inl ⟨by rfl, ?hy3⟩) (by assumption) ?rest3
          case hy3 => (intro W hSw; (try dsimp only at hSw); go_simp <;> with_reducible rfl)
          try simp only [Act.put, List.setIfInBounds_toArray, List.set_cons_zero, List.set_cons_succ]
          refine wpAnyH_take (i := 4) (v := ?v4) rfl (by kernel_rfl) (by kernel_rfl) (by kernel_rfl) (fun _ _ _ h => h) (Or.inl ⟨by rfl, ?hy4⟩) (by assumption) ?rest4
          case hy4 => (intro W hSw; (try dsimp only at hSw); go_simp <;> with_reducible rfl)
          try simp only [Act.put, List.setIfInBounds_toArray, List.set_cons_zero, List.set_cons_succ]
          refine wpAnyH_take (i := 5) (v := ?v5) rfl (by kernel_rfl) (by kernel_rfl) (by kernel_rfl) (fun _ _ _ h => h) (Or.inl ⟨by rfl, ?hy5⟩) (by assumption) ?rest5
          case hy5 => (intro W hSw; (try dsimp only at hSw); go_simp <;> with_reducible rfl)
          try simp only [Act.put, List.setIfInBounds_toArray, List.set_cons_zero, List.set_cons_succ]
          refine wpAnyH_take (i := 6) (v := ?v6) rfl (by kernel_rfl) (by kernel_rfl) (by kernel_rfl) (fun _ _ _ h => h) (Or.inl ⟨by rfl, ?hy6⟩) (by assumption) ?rest6
          case hy6 => (intro W hSw; (try dsimp only at hSw); go_simp <;> with_reducible rfl)
          try simp only [Act.put, List.setIfInBounds_toArray, List.set_cons_zero, List.set_cons_succ]
          refine wpAnyH_take (i := 7) (v := ?v7) rfl (by kernel_rfl) (by kernel_rfl) (by kernel_rfl) (fun _ _ _ h => h) (Or.inl ⟨by rfl, ?hy7⟩) (by assumption) ?rest7
          case hy7 => (intro W hSw; (try dsimp only at hSw); go_simp <;> with_reducible rfl)
          try simp only [Act.put, List.setIfInBounds_toArray, List.set_cons_zero, List.set_cons_succ]
          refine wpAnyH_take (i := 8) (v := ?v8) rfl (by kernel_rfl) (by kernel_rfl) (by kernel_rfl) (fun _ _ _ h => h) (Or.inl ⟨by rfl, ?hy8⟩) (by assumption) ?rest8
          case hy8 => (intro W hSw; (try dsimp only at hSw); go_simp <;> with_reducible rfl)
          try simp only [Act.put, List.setIfInBounds_toArray, List.set_cons_zero, List.set_cons_succ]
          refine wpAnyH_take (i := 10) (v := ?v10) rfl (by kernel_rfl) (by kernel_rfl) (by kernel_rfl) (fun _ _ _ h => h) (Or.inl ⟨by rfl, ?hy10⟩) (by assumption) ?rest10
          case hy10 => (intro W hSw; (try dsimp only at hSw); go_simp <;> with_reducible rfl)
          try simp only [Act.put, List.setIfInBounds_toArray, List.set_cons_zero, List.set_cons_succ]
          refine wpAnyH_take (i := 11) (v := ?v11) rfl (by kernel_rfl) (by kernel_rfl) (by kernel_rfl) (fun _ _ _ h => h) (Or.inl ⟨by rfl, ?hy11⟩) (by assumption) ?rest11
          case hy11 => (intro W hSw; (try dsimp only at hSw); go_simp <;> with_reducible rfl)
          try simp only [Act.put, List.setIfInBounds_toArray, List.set_cons_zero, List.set_cons_succ]
          refine wpAnyH_ready (rs := [9]) (by kernel_rfl) (by simp) ?_
          refine AllReadyH.cons rfl (fun K hK => ?_) AllReadyH.nil
          go_simp
          refine hK.out _ _ (show HB w.heap.size wr.heap.size g c n x _ from hbd) (fun hHeld => ?_)
          clear hK K
          try simp only [Act.put, List.setIfInBounds_toArray, List.set_cons_zero, List.set_cons_succ]
          refine wpAnyH_ready (rs := [12]) (by kernel_rfl) (by simp) ?_
          refine AllReadyH.cons rfl (fun K hK => ?_) AllReadyH.nil
          go_simp
          go_at_call 45
          refine (hT _).mono ?_
          rintro r w2 ⟨rfl, hbl⟩
          have hb2 := hbd.next hbl
          have o2 := own_bel (w' := w2) hod hbl
          have hf2 := o2.frozenAt n
          have hc2 : w2.cell? ⟨g, n, none⟩ = some (.string old) := (hbl.cell (p := ⟨g, n, none⟩) hgN).trans hcN
          refine hK.out _ _ (show HB w.heap.size wr.heap.size g c n x _ from hb2) (fun hHeld => ?_)
          clear hK K
          try simp only [Act.put, List.setIfInBounds_toArray, List.set_cons_zero, List.set_cons_succ]
          refine wpAnyH_take (i := 13) (v := ?v13) rfl (by kernel_rfl) (by kernel_rfl) (by kernel_rfl) (fun _ _ _ h => h) (Or.inl ⟨by rfl, ?hy13⟩) (by assumption) ?rest13
          case hy13 => (intro W hSw; (try dsimp only at hSw); go_simp <;> with_reducible rfl)
          try simp only [Act.put, List.setIfInBounds_toArray, List.set_cons_zero, List.set_cons_succ]
          refine wpAnyH_ready (rs := [14]) (by kernel_rfl) (by simp) ?_
          refine AllReadyH.cons rfl (fun K hK => ?_) AllReadyH.nil
          go_simp
          refine hK.out _ _ (show HB w.heap.size wr.heap.size g c n x _ from hb2.store hg3 hg8 _ _) (fun hHeld => ?_)
          clear hK K
          try simp only [Act.put, List.setIfInBounds_toArray, List.set_cons_zero, List.set_cons_succ]
          refine wpAnyH_done (by kernel_rfl) ?_ _
          have KW := ((HK.out.below ((below_drewN (Below.refl _ WN) 1).trans hbl) hbase).store htt n z)
          go_wp2_with fail
          go_roundw
          case rel => exact ⟨k + 1, by omega, by go_num, by rw [HST.out]; exact KW⟩
          case measure => simp [intOf]; omega
        · have hte' : ((k : Int) == tear) = false := by simpa using hte
          rw [stp_none hbf hte] at hstep
          have HST := Lib.hid hstep
          clear hstep hbit hold hsk hst hn hx hwl hsmall hlen K h0 h1 h120
          go_wp2_with fail
          go_roundw
          case rel => exact ⟨k + 1, by omega, by go_num, by rw [HST.out]; exact KN⟩
          case measure => simp [intOf]; omega
    · have hke : k = ws.length := by omega
      subst hke
      have hl := hlen ws.length
      have lt6 := K.b6.lt
      obtain ⟨⟨r0, r1, r2⟩, _⟩ := K.b3.cells
      have hsz := K.bel.size
      have b3 := K.b3.alloc (.cells #[] 32)
      have b6 := K.b6.alloc (.cells #[] 32)
      obtain ⟨⟨x0, x1, x2⟩, x3, x4, x5⟩ := b3.cells
      obtain ⟨⟨y0, y1, y2⟩, y3, y4, y5⟩ := b6.cells
      have ow : DkOwn (wr.alloc (.cells #[] 32)) base (.agg #[.slice (some ⟨g, 0, none⟩) 64 c, .slice (some ⟨wr.heap.size, 0, none⟩) 0 0, .bool gone]) ⟨st ws mask tear cs ws.length, [], gone⟩ :=
        ⟨tt, _, _, rfl, htt, by rw [hl]; exact K.row.alloc _, World.ownsRow_made (e := 32) (size := 2) wr #[] 0 (by omega) (Nat.zero_le _) rfl⟩
      have ow2 := (ow.set_box b3 1 (.slice (some ⟨wr.heap.size, 0, none⟩) 0 0)).box2 (b6.set (p := ⟨w.heap.size, 1, none⟩) (by simp) (.slice (some ⟨wr.heap.size, 0, none⟩) 0 0)) (.slice (some ⟨g, 0, none⟩) 64 c) (.slice (some ⟨wr.heap.size, 0, none⟩) 0 0) (.bool gone)
      have BB := bel_boxB ((K.bel.alloc (by omega) (.cells #[] 32)).setCell (p := ⟨w.heap.size, 1, none⟩) hbase (.slice (some ⟨wr.heap.size, 0, none⟩) 0 0)) (show base ≤ w.heap.size + 1 by omega) (.slice (some ⟨g, 0, none⟩) 64 c) (.slice (some ⟨wr.heap.size, 0, none⟩) 0 0) (.bool gone)
      have q3 : w.heap.size ≠ w.heap.size + 1 := by omega
      clear hlen hsmall hwl b3 b6 ow K
      go_wp2_with fail
      refine bodyPost_ret (v := .agg #[.slice (some ⟨g, 0, none⟩) 64 c, .slice (some ⟨wr.heap.size, 0, none⟩) 0 0, .bool gone]) (by simp [results, Try.f28, go_sem, y0, y1, y2]) rfl ?_
      refine ⟨some ⟨g, 0, none⟩, c, some ⟨wr.heap.size, 0, none⟩, 0, ?_, ?_, BB⟩
      · simp only [hl, List.length_nil]
      · simp only [hl, List.length_nil]; exact ow2
end Go.Proofs.Ytimpdjlgfjehcaa
