/-
  FnDiskTorn's walk.
-/
import Derived.Test.YtadgknkheachaaaTornP
namespace Go.Proofs.Ytadgknkheachaaa
open Go.RowKit

set_option maxRecDepth 100000 in
set_option maxHeartbeats 8000000 in
theorem walk_torn (A : Option Addr) (n cap : Nat) (w : World) (hD : Calls Try.prog 46 #[.slice A n cap] w (Drawn3 w)) :
    Calls Try.prog 21 #[.slice A n cap] w fun r w' => r = .returned (.bool true) ∧ Below w.heap.size w w' := by
  by_cases hbig : 1048576 < n
  · have hbig2 : (1048576 : Int) < (n : Int) := by omega
    clear hD hbig
    go_enter Try.func21, Try.ntmps21
    go_wp2
    go_ret
    exact ⟨rfl, Below.refl _ _⟩
  have hbig2 : ¬ (1048576 : Int) < (n : Int) := by omega
  clear hbig
  go_enter Try.func21, Try.ntmps21
  have hC := hD
  go_wp2_with (go_at_call 46; refine hC.mono ?_; rintro r w1 ⟨d, A0, c0, B0, e0, n0, t0, rfl, h0, hd, ht0, hb1⟩; refine Hid.out ?_)
  refine Lib.hid ?_
  clear hC hD hbig2
  have BB := hb1
  clear hb1
  have b0 := Bx.new w1 25 (.slice A0 d.cells.length c0) (.slice B0 d.waits.length e0) (.bool d.gone)
  have bl : Below w1.heap.size w1 (w1.alloc (.cells #[.slice A0 d.cells.length c0, .slice B0 d.waits.length e0, .bool d.gone] 25)) := bel_new (Below.refl _ _) _
  have h0 := h0.below bl
  have BB := bel_then BB bl
  clear bl
  have ht : t0.size ≤ maxLen := by unfold maxLen; omega
  have hkF := bulk_flush hd
  have hI := fun A B c e W hW => impl_flush A B c e d W hd hW
  have hSF := fun A B c e W hW => spec_flush A B c e d W hd hW
  have hTo := fun h => torn_cell (d := d) (n := n0) (t := t0) h
  have hTd := fun h => write_told (d := flushD d) (n := n0) (t := t0) h
  have hTv := fun h => write_valid (d := flushD d) (n := n0) (t := t0) h
  obtain ⟨D1, hD1⟩ : ∃ D, D = flushD d := ⟨_, rfl⟩
  simp only [← hD1] at hkF hI hSF hTo hTd hTv
  have hW2 := fun A B c e W hW => impl_write A B c e D1 n0 t0 W hkF hW ht
  have hS2 := fun A B c e W hW => spec_write A B c e D1 n0 t0 W hkF hW ht
  have hk2 := bulk_write hkF n0 t0
  obtain ⟨D2, hD2⟩ : ∃ D, D = (writeD D1 n0 t0).1 := ⟨_, rfl⟩
  obtain ⟨p2, hp2⟩ : ∃ p, p = (writeD D1 n0 t0).2 := ⟨_, rfl⟩
  simp only [← hD2, ← hp2] at hW2 hS2 hk2 hTo hTd hTv
  clear hD1 hD2 hp2 ht ht0
  have HO := Lib.hid hTo
  have HT := Lib.hid hTd
  have HV := Lib.hid hTv
  clear hTo hTd hTv
  obtain ⟨⟨x00, x01, x02⟩, _⟩ := b0.cells
  have hC := hI A0 B0 c0 e0 _ h0
  go_wp2_with (go_at_call 36; refine hC.mono ?_; rintro r w2 ⟨A1, c1, B1, e1, rfl, o1, hb2⟩; refine Hid.out ?_)
  refine Lib.hid ?_
  clear hC hI
  clear x00 x01 x02
  have b0 := b0.below hb2
  have h0 := h0.below hb2
  have BB := bel_then BB hb2
  clear hb2
  have h1 := o1.lies
  clear o1
  have b1 := Bx.new w2 25 (.slice A1 D1.cells.length c1) (.slice B1 D1.waits.length e1) (.bool D1.gone)
  have bl : Below w2.heap.size w2 (w2.alloc (.cells #[.slice A1 D1.cells.length c1, .slice B1 D1.waits.length e1, .bool D1.gone] 25)) := bel_new (Below.refl _ _) _
  have b0 := b0.below bl
  have h0 := h0.below bl
  have h1 := h1.below bl
  have BB := bel_then BB bl
  clear bl
  obtain ⟨⟨x10, x11, x12⟩, _⟩ := b1.cells
  have hC := hW2 A1 B1 c1 e1 _ h1
  go_wp2_with (go_at_call 34; refine hC.mono ?_; rintro r w3 ⟨A2, c2, B2, e2, rfl, o2, hb3⟩; refine Hid.out ?_)
  refine Lib.hid ?_
  clear hC hW2
  clear x10 x11 x12
  have b0 := b0.below hb3
  have b1 := b1.below hb3
  have h0 := h0.below hb3
  have h1 := h1.below hb3
  have BB := bel_then BB hb3
  clear hb3
  have h2 := o2.lies
  clear o2
  have b2 := Bx.new w3 25 (.slice A2 D2.cells.length c2) (.slice B2 D2.waits.length e2) (.bool D2.gone)
  have bl : Below w3.heap.size w3 (w3.alloc (.cells #[.slice A2 D2.cells.length c2, .slice B2 D2.waits.length e2, .bool D2.gone] 25)) := bel_new (Below.refl _ _) _
  have b0 := b0.below bl
  have b1 := b1.below bl
  have h0 := h0.below bl
  have h1 := h1.below bl
  have h2 := h2.below bl
  have BB := bel_then BB bl
  clear bl
  obtain ⟨⟨x00, x01, x02⟩, _⟩ := b0.cells
  have hC := hSF A0 B0 c0 e0 _ h0
  go_wp2_with (go_at_call 35; refine hC.mono ?_; rintro r w4 ⟨A3, c3, B3, e3, rfl, o3, hb4⟩; refine Hid.out ?_)
  refine Lib.hid ?_
  clear hC hSF
  clear x00 x01 x02
  have b0 := b0.below hb4
  have b1 := b1.below hb4
  have b2 := b2.below hb4
  have h0 := h0.below hb4
  have h1 := h1.below hb4
  have h2 := h2.below hb4
  have BB := bel_then BB hb4
  clear hb4
  have h3 := o3.lies
  clear o3 b0 h0
  have hC := hS2 A3 B3 c3 e3 _ h3
  go_wp2_with (go_at_call 33; refine hC.mono ?_; rintro r w5 ⟨A4, c4, B4, e4, rfl, o4, hb5⟩; refine Hid.out ?_)
  refine Lib.hid ?_
  clear hC hS2
  have b1 := b1.below hb5
  have b2 := b2.below hb5
  have h1 := h1.below hb5
  have h2 := h2.below hb5
  have h3 := h3.below hb5
  have BB := bel_then BB hb5
  clear hb5
  have h4 := o4.lies
  clear o4
  have b4 := Bx.new w5 25 (.slice A4 D2.cells.length c4) (.slice B4 D2.waits.length e4) (.bool D2.gone)
  have bl : Below w5.heap.size w5 (w5.alloc (.cells #[.slice A4 D2.cells.length c4, .slice B4 D2.waits.length e4, .bool D2.gone] 25)) := bel_new (Below.refl _ _) _
  have b1 := b1.below bl
  have b2 := b2.below bl
  have h1 := h1.below bl
  have h2 := h2.below bl
  have h3 := h3.below bl
  have h4 := h4.below bl
  have BB := bel_then BB bl
  clear bl
  clear h3
  by_cases hp : p2 = true
  · subst hp
    obtain ⟨hv1, _, n00, n63, _⟩ := HT.out rfl
    have hto := HO.out rfl
    have hv2 := HV.out rfl
    have hC := fun A B c e W hW => impl_crash A B c e D2 0 0 W hk2 hW (by decide)
    have hl1 : 64 ≤ D1.cells.length := by rw [hv1.1]; omega
    have hl2 : (crashD D2 0 0).cells.length = 64 := by rw [crashD_yes hv2 (by decide)]; exact (crash_valid hv2 0 0).1
    obtain ⟨k, rfl⟩ : ∃ k : Nat, n0 = (k : Int) := ⟨n0.toNat, by omega⟩
    have hk64 : k < 64 := by omega
    have hk63 : (k : Int) < 64 := by omega
    rw [Int.toNat_natCast] at hto
    have hs1 : (D1.cells.getD k none8).size ≤ 200 := small_getD hv1.2.2.2.1 _
    have his := torn_is (D1.cells.getD k none8) t0
    have hhd := torn_head (D1.cells.getD k none8) t0
    have hrs := torn_rest (D1.cells.getD k none8) t0
    rw [← hto] at his hhd hrs
    obtain ⟨C, hCe⟩ : ∃ D, D = crashD D2 0 0 := ⟨_, rfl⟩
    simp only [← hCe] at hC hl2 his hhd hrs
    have hkd : k < D1.cells.length := by omega
    have hkc : k < C.cells.length := by omega
    have hkd' : (k : Int) < (D1.cells.length : Int) := by omega
    have hkc' : (k : Int) < (C.cells.length : Int) := by omega
    clear hl1 hl2
    obtain ⟨od, hod⟩ : ∃ x, x = D1.cells.getD k none8 := ⟨_, rfl⟩
    obtain ⟨nw, hnw⟩ : ∃ x, x = C.cells.getD k none8 := ⟨_, rfl⟩
    simp only [← hod, ← hnw] at his hhd hrs hs1
    have HOD := Lib.hid hod
    have HNW := Lib.hid hnw
    obtain ⟨q, hq⟩ : ∃ q, q = t0.size / 2 := ⟨_, rfl⟩
    have hd1 : (t0.size : Int).tdiv 2 = (q : Int) := by rw [hq, Int.tdiv_eq_ediv_of_nonneg (by omega)]; rfl
    have hd2 : (t0.size : Int) / 2 = (q : Int) := by rw [hq]; rfl
    have hqt : (q : Int) ≤ (t0.size : Int) := by omega
    have hqb : q ≤ 1000 := by omega
    simp only [← hq] at his hhd hrs
    obtain ⟨X, hX⟩ : ∃ X, X = t0.extract 0 q := ⟨_, rfl⟩
    obtain ⟨Y, hY⟩ : ∃ Y, Y = od.extract q od.size := ⟨_, rfl⟩
    rw [← hX] at hhd
    rw [← hY] at hrs
    have hXX : (X.toList == X.toList) = true := by simp
    have hYY : (Y.toList == Y.toList) = true := by simp
    have HI := Lib.hid his
    have HH := Lib.hid hhd
    have HR := Lib.hid hrs
    have HX := Lib.hid hX.symm
    have HY := Lib.hid hY.symm
    clear his hhd hrs hX hY hq hod hnw
    clear hCe hto HT HO HV hv1 hv2
    obtain ⟨⟨x20, x21, x22⟩, _⟩ := b2.cells
    obtain ⟨⟨x40, x41, x42⟩, _⟩ := b4.cells
    have hC := pf_disk A2 B2 A4 B4 c2 e2 c4 e4 D2 _ hk2.cells hk2.waits h2 h4
    go_wp2_with (go_at_call 43; refine hC.mono ?_; rintro r w6 ⟨rfl, hb6⟩; refine Hid.out ?_)
    refine Lib.hid ?_
    clear hC
    clear x20 x21 x22 x40 x41 x42
    have b1 := b1.below hb6
    have b2 := b2.below hb6
    have b4 := b4.below hb6
    have h1 := h1.below hb6
    have h2 := h2.below hb6
    have h4 := h4.below hb6
    have BB := bel_then BB hb6
    clear hb6
    clear b4 h4
    have BZ := BB
    obtain ⟨g1, off1, rfl, hlt1, hck1⟩ := h1.1.strD k hkd
    rw [← HOD.out] at hck1
    obtain ⟨⟨x10, x11, x12⟩, _⟩ := b1.cells
    obtain ⟨⟨x20, x21, x22⟩, _⟩ := b2.cells
    have hC := hC A2 B2 c2 e2 _ h2
    go_wp2_with (go_at_call 38; refine hC.mono ?_; rintro r w7 ⟨A7, c7, B7, e7, rfl, o7, hb7⟩; refine Hid.out ?_)
    refine Lib.hid ?_
    obtain ⟨g7, off7, rfl, hlt7, hck7⟩ := o7.lies.1.strD k hkc
    rw [← HNW.out] at hck7
    clear o7 h1 h2 hC
    have hfl := fld_cells
    by_cases hle : od.size ≤ q
    · have hI1 : nw.size = q := by have := HI.out; omega
      have hI2 : (od.size : Int) ≤ (q : Int) := by omega
      have hI3 : ¬ (q : Int) < (od.size : Int) := by omega
      have hX1 := HX.out
      have hX2 := HH.out
      clear hle hs1
      go_wp2_with fail
      go_quiet (fail)
      all_goals go_wp2_with fail
      all_goals go_ret
      all_goals exact ⟨rfl, below_drewN (bel_then BZ hb7) _⟩
    · have hI1 : nw.size = od.size := by have := HI.out; omega
      have hI2 : ¬ (od.size : Int) ≤ (q : Int) := by omega
      have hI3 : (q : Int) < (od.size : Int) := by omega
      have hI4 : (q : Int) ≤ (od.size : Int) := by omega
      have hX1 := HX.out
      have hX2 := HH.out
      have hY1 := HY.out
      have hY2 := HR.out
      rw [hI1] at hY2
      have hB1 : decide (od.size ≤ q) = false := by simpa using hle
      have hB2 : decide ((od.size : Int) ≤ (q : Int)) = false := by simpa using hI2
      clear hle hs1
      go_wp2_with fail
      go_quiet (fail)
      all_goals go_wp2_with fail
      all_goals go_ret
      all_goals exact ⟨rfl, below_drewN (bel_then BZ hb7) _⟩
  · obtain rfl : p2 = false := by simpa using hp
    clear hp HT HO HV b1 h1
    obtain ⟨⟨x20, x21, x22⟩, _⟩ := b2.cells
    obtain ⟨⟨x40, x41, x42⟩, _⟩ := b4.cells
    have hC := pf_disk A2 B2 A4 B4 c2 e2 c4 e4 D2 _ hk2.cells hk2.waits h2 h4
    go_wp2_with (go_at_call 43; refine hC.mono ?_; rintro r w6 ⟨rfl, hb6⟩; refine Hid.out ?_)
    refine Lib.hid ?_
    clear hC
    clear x20 x21 x22 x40 x41 x42
    have b2 := b2.below hb6
    have b4 := b4.below hb6
    have h2 := h2.below hb6
    have h4 := h4.below hb6
    have BB := bel_then BB hb6
    clear hb6
    obtain ⟨⟨x20, x21, x22⟩, _⟩ := b2.cells
    obtain ⟨⟨x40, x41, x42⟩, _⟩ := b4.cells
    have hC := pf_disk A2 B2 A4 B4 c2 e2 c4 e4 D2 _ hk2.cells hk2.waits h2 h4
    go_wp2_with (go_at_call 43; refine hC.mono ?_; rintro r w7 ⟨rfl, hb7⟩)
    go_ret
    exact ⟨rfl, bel_then BB hb7⟩
end Go.Proofs.Ytadgknkheachaaa
