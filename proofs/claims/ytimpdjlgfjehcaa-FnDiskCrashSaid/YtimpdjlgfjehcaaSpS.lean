/-
  DiskSpoil, the model's.
-/
import Derived.Test.YtimpdjlgfjehcaaSpI
namespace Go.Proofs.Ytimpdjlgfjehcaa
open Go.RowKit

set_option maxRecDepth 100000 in
set_option maxHeartbeats 4000000 in
theorem spec_spoil (A B : Option Addr) (c e : Nat) (d : Dk) (n : Int) (t : ByteArray) (w : World) (hd : Bulk d) (hA : DkAt w A B d) (hsz : t.size ≤ maxLen) :
    Calls Try.prog 14 #[.agg #[.slice A d.cells.length c, .slice B d.waits.length e, .bool d.gone], .int .i64 n, .string t] w (DPost2 (spoilD d n t).1 (spoilD d n t).2 w) := by
  have K0 := TwoB.new w (.slice A d.cells.length c) (.slice B d.waits.length e) (.bool d.gone)
  have hle : w.heap.size ≤ w.heap.size + 1 := by omega
  by_cases hok : DkOk d
  · have hO := okPost_yes hok (spec_ok A B c e d _ hd (hA.below K0.one.2.2.2))
    by_cases hy : Take d n t
    · have hC := fun W hW => spec_copy A B c e d W hd (hA.below (w' := W) hW)
      rw [spoilD_yes hok hy]
      have h64 := Lib.hid hok.1
      obtain ⟨hgone, hn1, hn2, hs⟩ := id hy
      have hC1 := fun w => s_cell n w
      rw [cellB_yes ⟨hn1, hn2⟩] at hC1
      have hs' : ¬ (200 : Int) < (t.size : Int) := by omega
      obtain ⟨D, hD⟩ : ∃ D : Dk, D = ⟨d.cells.set n.toNat t, d.waits, d.gone⟩ := ⟨_, rfl⟩
      rw [← hD]
      have HD := Lib.hid hD
      rw [hgone] at K0 hO ⊢
      simp only [hgone] at hC
      clear hD hs
      clear hok hA hd hy
      clear hgone
      go_enter Try.func14, Try.ntmps14
      go_wp2_with (first
        | (go_at_call 27; refine hO.mono ?_; rintro r w2 ⟨rfl, hb2⟩; refine Hid.out ?_))
      refine Lib.hid ?_
      have K2 := K0.next hb2
      obtain ⟨x0, x1, x2, y0, y1, y2, f0, f1, f2, _⟩ := id K2
      clear hO K0 hb2
      go_wp2_with (first
        | (go_at_call 34; refine (hC1 _).mono ?_; rintro r w' ⟨rfl, rfl⟩)
        | (go_at_call 29; refine (hC _ K2.one.2.2.2).mono ?_; rintro r w3 ⟨A3, c3, B3, e3, rfl, o3, hb3⟩; refine Hid.out ?_))
      refine Lib.hid ?_
      clear hC hC1
      have s2 := K2.2.2.2.2.2.2.2.2.2.2.1
      obtain ⟨tt, htt, h1, h2⟩ := o3.rows
      obtain ⟨g, rfl⟩ := own_addr h1 (by have := h64.out; omega)
      obtain ⟨k, rfl⟩ : ∃ k : Nat, n = (k : Int) := ⟨n.toNat, by omega⟩
      have hlt := h1.lt g rfl
      have bl : Below w3.heap.size w3 (w3.alloc (.cells #[.slice (some ⟨g, 0, none⟩) d.cells.length c3, .slice B3 d.waits.length e3, .bool d.gone] 26)) := bel_new (Below.refl _ _) _
      have b3 := Bx.new w3 26 (.slice (some ⟨g, 0, none⟩) d.cells.length c3) (.slice B3 d.waits.length e3) (.bool d.gone)
      have BB := Below.setCell (hb3.trans (bl.mono hb3.size)) (p := ⟨g, k, none⟩) hlt.1 (.string t)
      have h1 := own_bel h1 bl
      have h2 := own_bel h2 bl
      have hgn : w3.heap.size ≠ g := by omega
      have hf := h1.frozenAt k
      have hkl : k < d.cells.length := by have := h64.out; omega
      have hc : (w3.alloc (.cells #[.slice (some ⟨g, 0, none⟩) d.cells.length c3, .slice B3 d.waits.length e3, .bool d.gone] 26)).cell? ⟨g, k, none⟩ = some (.string (d.cells[k]'hkl)) := by
        rw [h1.cellAt k (by omega)]
        exact strCells_at _ k _
      obtain ⟨old, hold⟩ : ∃ old, old = d.cells[k]'hkl := ⟨_, rfl⟩
      rw [← hold] at hc
      have o5 := own_put (gone := d.gone) htt h1 h2 k t
      have b5 := b3.set (p := ⟨g, k, none⟩) hgn (.string t)
      have K5 := K2.next BB
      have hkI : (k : Int) < (d.cells.length : Int) := by omega
      have hk1 : (k : Int).toNat = k := Int.toNat_natCast k
      go_upto_region 4 with fail
      obtain ⟨W4, hW4⟩ : ∃ W, W = w3.alloc (.cells #[.slice (some ⟨g, 0, none⟩) d.cells.length c3, .slice B3 d.waits.length e3, .bool d.gone] 26) := ⟨_, rfl⟩
      rw [← hW4] at b3 hf hc o5 b5 K5 BB ⊢
      have B5 := bel_box K5.one.2.2.2 hle (.slice (some ⟨g, 0, none⟩) d.cells.length c3) (.slice B3 d.waits.length e3) (.bool d.gone)
      clear hW4 hold h1 h2 bl hb3 o3
      obtain ⟨⟨v0, v1, v2⟩, _⟩ := b3.cells
      obtain ⟨⟨z0, z1, z2⟩, _⟩ := b5.cells
      clear x0 x1 x2 y0 y1 y2 f0 f1 f2
      obtain ⟨x0, x1, x2, y0, y1, y2, f0, f1, f2, _⟩ := id K5
      have ow := (o5.box (R := w.heap.size + 1) (by omega) (.slice (some ⟨g, 0, none⟩) d.cells.length c3) (.slice B3 d.waits.length e3) (.bool d.gone)).base (base' := w.heap.size) (by omega)
      have OW := Lib.hid ow
      have OB := Lib.hid B5
      clear b3 b5 K5 o5 BB K2 ow B5
      go_wp2_with fail
      refine bodyPost_ret (v := .tuple #[.agg #[.slice (some ⟨g, 0, none⟩) d.cells.length c3, .slice B3 d.waits.length e3, .bool d.gone], .bool true]) (by simp [results, Try.f14, go_sem, y0, y1, y2]) rfl ?_
      rw [HD.out]
      refine ⟨some ⟨g, 0, none⟩, c3, B3, e3, by simp only [List.length_set], ?_, OB.out⟩
      simp only [List.length_set, hk1]
      exact OW.out
    · rw [spoilD_no (fun x => hy x.2)]
      clear hok hA hd
      have hC1 := fun w => s_cell n w
      by_cases hg : d.gone = false
      · rw [hg] at K0 hO ⊢
        by_cases hn : 0 ≤ n ∧ n ≤ 63
        · have hs' : (200 : Int) < (t.size : Int) := by
            have : ¬ t.size ≤ 200 := fun h => hy ⟨hg, hn.1, hn.2, h⟩
            omega
          rw [cellB_yes hn] at hC1
          clear hg hn hy
          go_enter Try.func14, Try.ntmps14
          go_wp2_with (go_at_call 27; refine hO.mono ?_; rintro r w2 ⟨rfl, hb2⟩; refine Hid.out ?_)
          refine Lib.hid ?_
          have K2 := K0.next hb2
          obtain ⟨x0, x1, x2, y0, y1, y2, f0, f1, f2, _⟩ := id K2
          clear hO K0 hb2
          go_wp2_with (go_at_call 34; refine (hC1 _).mono ?_; rintro r w' ⟨rfl, rfl⟩)
          exact bodyPost_ret (v := .tuple #[.agg #[.slice none 0 0, .slice none 0 0, .bool false], .bool false]) (by simp [results, Try.f14, go_sem, y0, y1, y2]) rfl (DPost2.mk (d := dk0) (dk0_own _ _) (bel_box K2.one.2.2.2 hle _ _ _))
        · rw [cellB_no hn] at hC1
          clear hg hn hy
          go_enter Try.func14, Try.ntmps14
          go_wp2_with (go_at_call 27; refine hO.mono ?_; rintro r w2 ⟨rfl, hb2⟩; refine Hid.out ?_)
          refine Lib.hid ?_
          have K2 := K0.next hb2
          obtain ⟨x0, x1, x2, y0, y1, y2, f0, f1, f2, _⟩ := id K2
          clear hO K0 hb2
          go_wp2_with (go_at_call 34; refine (hC1 _).mono ?_; rintro r w' ⟨rfl, rfl⟩)
          exact bodyPost_ret (v := .tuple #[.agg #[.slice none 0 0, .slice none 0 0, .bool false], .bool false]) (by simp [results, Try.f14, go_sem, y0, y1, y2]) rfl (DPost2.mk (d := dk0) (dk0_own _ _) (bel_box K2.one.2.2.2 hle _ _ _))
      · have hg2 : d.gone = true := by simpa using hg
        rw [hg2] at K0 hO ⊢
        clear hg hg2 hy hC1
        go_enter Try.func14, Try.ntmps14
        go_wp2_with (go_at_call 27; refine hO.mono ?_; rintro r w2 ⟨rfl, hb2⟩; refine Hid.out ?_)
        refine Lib.hid ?_
        have K2 := K0.next hb2
        obtain ⟨x0, x1, x2, y0, y1, y2, f0, f1, f2, _⟩ := id K2
        clear hO K0 hb2
        go_wp2_with fail
        exact bodyPost_ret (v := .tuple #[.agg #[.slice none 0 0, .slice none 0 0, .bool false], .bool false]) (by simp [results, Try.f14, go_sem, y0, y1, y2]) rfl (DPost2.mk (d := dk0) (dk0_own _ _) (bel_box K2.one.2.2.2 hle _ _ _))
  · have hO := okPost_no hok (spec_ok A B c e d _ hd (hA.below K0.one.2.2.2))
    rw [spoilD_no (fun x => hok x.1)]
    clear hok hA hd
    go_enter Try.func14, Try.ntmps14
    go_wp2_with (go_at_call 27; refine hO.mono ?_; rintro r w2 ⟨rfl, hb2⟩; have K2 := K0.next hb2; obtain ⟨x0, x1, x2, y0, y1, y2, f0, f1, f2, _⟩ := id K2)
    exact bodyPost_ret (v := .tuple #[.agg #[.slice none 0 0, .slice none 0 0, .bool false], .bool false]) (by simp [results, Try.f14, go_sem, y0, y1, y2]) rfl (DPost2.mk (d := dk0) (dk0_own _ _) (bel_box K2.one.2.2.2 hle _ _ _))

end Go.Proofs.Ytimpdjlgfjehcaa
