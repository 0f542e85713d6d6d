/-
  FnDiskSpoil's walk.
-/
import Derived.Test.YtimpdjlgfjehcaaPl
import Derived.Test.YtimpdjlgfjehcaaSpS
import Derived.Test.YtimpdjlgfjehcaaKS
namespace Go.Proofs.Ytimpdjlgfjehcaa
open Go.RowKit

set_option maxRecDepth 100000 in
set_option maxHeartbeats 8000000 in
theorem walk_spoil (A : Option Addr) (n cap : Nat) (w : World) (hD : Calls Try.prog 12 #[.slice A n cap] w (Drawn3 w)) :
    Calls Try.prog 4 #[.slice A n cap] w fun r w' => r = .returned (.bool true) ∧ Below w.heap.size w w' := by
  by_cases hbig : 1048576 < n
  · have hbig2 : (1048576 : Int) < (n : Int) := by omega
    clear hD hbig
    go_enter Try.func4, Try.ntmps4
    go_wp2
    go_ret
    exact ⟨rfl, Below.refl _ _⟩
  have hbig2 : ¬ (1048576 : Int) < (n : Int) := by omega
  clear hbig
  go_enter Try.func4, Try.ntmps4
  have hC := hD
  go_wp2_with (go_at_call 12; refine hC.mono ?_; rintro r w1 ⟨d, A0, c0, B0, e0, n0, t0, rfl, h0, hd, ht0, hb1⟩; refine Hid.out ?_)
  refine Lib.hid ?_
  clear hC hD hbig2
  have BB := hb1
  clear hb1
  have b0 := Bx.new w1 26 (.slice A0 d.cells.length c0) (.slice B0 d.waits.length e0) (.bool d.gone)
  have bl : Below w1.heap.size w1 (w1.alloc (.cells #[.slice A0 d.cells.length c0, .slice B0 d.waits.length e0, .bool d.gone] 26)) := bel_new (Below.refl _ _) _
  have h0 := h0.below bl
  have BB := bel_then BB bl
  clear bl
  have ht : t0.size ≤ maxLen := by unfold maxLen; omega
  have hW := fun A B c e W hW => impl_spoil A B c e d n0 t0 W hd hW ht
  have hS := fun A B c e W hW => spec_spoil A B c e d n0 t0 W hd hW ht
  have hkD := bulk_spoil (d := d) n0 t0
  have hce := fun h => spoil_cell (d := d) (n := n0) (t := t0) h
  have hbk := fun h => spoil_back (d := d) (n := n0) (t := t0) h
  obtain ⟨D, hDe⟩ : ∃ D, D = (spoilD d n0 t0).1 := ⟨_, rfl⟩
  obtain ⟨p, hpe⟩ : ∃ p, p = (spoilD d n0 t0).2 := ⟨_, rfl⟩
  simp only [← hDe, ← hpe] at hW hS hkD hce hbk
  have HC := Lib.hid hce
  have HK := Lib.hid hbk
  clear hDe hpe ht ht0 hce hbk
  obtain ⟨⟨x00, x01, x02⟩, _⟩ := b0.cells
  have hC := hW A0 B0 c0 e0 _ h0
  go_wp2_with (go_at_call 13; refine hC.mono ?_; rintro r w2 ⟨A1, c1, B1, e1, rfl, o1, hb2⟩; refine Hid.out ?_)
  refine Lib.hid ?_
  clear hC hW
  clear x00 x01 x02
  have b0 := b0.below hb2
  have h0 := h0.below hb2
  have BB := bel_then BB hb2
  clear hb2
  have h1 := o1.lies
  clear o1
  have b1 := Bx.new w2 26 (.slice A1 D.cells.length c1) (.slice B1 D.waits.length e1) (.bool D.gone)
  have bl : Below w2.heap.size w2 (w2.alloc (.cells #[.slice A1 D.cells.length c1, .slice B1 D.waits.length e1, .bool D.gone] 26)) := bel_new (Below.refl _ _) _
  have b0 := b0.below bl
  have h0 := h0.below bl
  have h1 := h1.below bl
  have BB := bel_then BB bl
  clear bl
  obtain ⟨⟨x00, x01, x02⟩, _⟩ := b0.cells
  have hC := hS A0 B0 c0 e0 _ h0
  go_wp2_with (go_at_call 14; refine hC.mono ?_; rintro r w3 ⟨A2, c2, B2, e2, rfl, o2, hb3⟩; refine Hid.out ?_)
  refine Lib.hid ?_
  clear hC hS
  clear x00 x01 x02
  have b0 := b0.below hb3
  have b1 := b1.below hb3
  have h0 := h0.below hb3
  have h1 := h1.below hb3
  have BB := bel_then BB hb3
  clear hb3
  have h2 := o2.lies
  clear o2
  have b2 := Bx.new w3 26 (.slice A2 D.cells.length c2) (.slice B2 D.waits.length e2) (.bool D.gone)
  have bl : Below w3.heap.size w3 (w3.alloc (.cells #[.slice A2 D.cells.length c2, .slice B2 D.waits.length e2, .bool D.gone] 26)) := bel_new (Below.refl _ _) _
  have b0 := b0.below bl
  have b1 := b1.below bl
  have h0 := h0.below bl
  have h1 := h1.below bl
  have h2 := h2.below bl
  have BB := bel_then BB bl
  clear bl
  by_cases hp : p = true
  · subst hp
    obtain ⟨hc1, hc2, hc3, n00, n63⟩ := HC.out rfl
    have hbk := HK.out rfl
    obtain ⟨k, rfl⟩ : ∃ k : Nat, n0 = (k : Int) := ⟨n0.toNat, by omega⟩
    rw [Int.toNat_natCast] at hc1 hbk
    have hk1 : (k : Int) < (D.cells.length : Int) := by omega
    have hk2 : (k : Int) < (d.cells.length : Int) := by omega
    have hk3 : k < D.cells.length := by omega
    have hk4 : k < d.cells.length := by omega
    obtain ⟨o, ho⟩ : ∃ o, o = d.cells.getD k none8 := ⟨_, rfl⟩
    have hos : o.size ≤ maxLen := by
      rw [ho, List.getD_eq_getElem?_getD, List.getElem?_eq_getElem hk4]
      exact hd.texts _ (List.getElem_mem hk4)
    rw [← ho] at hbk
    have hW2 := fun A B c e W hW => impl_spoil A B c e D (k : Int) o W hkD hW hos
    simp only [hbk] at hW2
    have hq : (t0.toList == t0.toList) = true := by simp
    have H1 := Lib.hid hc1
    have HO := Lib.hid ho
    clear hc1 hc2 hc3 hbk ho HC HK hos
    obtain ⟨⟨x10, x11, x12⟩, _⟩ := b1.cells
    obtain ⟨⟨x20, x21, x22⟩, _⟩ := b2.cells
    have hC := pf_disk A1 B1 A2 B2 c1 e1 c2 e2 D _ hkD.cells hkD.waits h1 h2
    go_wp2_with (go_at_call 9; refine hC.mono ?_; rintro r w4 ⟨rfl, hb4⟩; refine Hid.out ?_)
    refine Lib.hid ?_
    clear hC
    clear x10 x11 x12 x20 x21 x22
    have b0 := b0.below hb4
    have b1 := b1.below hb4
    have b2 := b2.below hb4
    have h0 := h0.below hb4
    have h1 := h1.below hb4
    have h2 := h2.below hb4
    have BB := bel_then BB hb4
    clear hb4
    clear b2 h2
    have BX := BB
    obtain ⟨g0, off0, rfl, hlt0, hck0⟩ := h0.1.strD k hk4
    rw [← HO.out] at hck0
    obtain ⟨⟨x00, x01, x02⟩, _⟩ := b0.cells
    obtain ⟨⟨x10, x11, x12⟩, _⟩ := b1.cells
    have kk : KS w4 w1.heap.size w2.heap.size g0 (off0 + k) (.slice (some ⟨g0, off0, none⟩) d.cells.length c0) (.slice B0 d.waits.length e0) (.bool d.gone) (.slice A1 D.cells.length c1) (.slice B1 D.waits.length e1) (.bool D.gone) o w4 := ⟨x00, x01, x02, x10, x11, x12, hck0, b0.lt, b1.lt, hlt0, Below.refl _ _⟩
    clear hck0 hlt0
    go_upto_region 9 with fail
    clear x00 x01 x02 x10 x11 x12
    have k0 := kk.drew
    refine wp_region_held_drew (S := (fun W => W.cell? ⟨w1.heap.size, 0, none⟩ = some (.slice (some ⟨g0, off0, none⟩) d.cells.length c0) ∧ W.cell? ⟨w1.heap.size, 1, none⟩ = some (.slice B0 d.waits.length e0) ∧ W.cell? ⟨w1.heap.size, 2, none⟩ = some (.bool d.gone) ∧ W.cell? ⟨w2.heap.size, 0, none⟩ = some (.slice A1 D.cells.length c1) ∧ W.cell? ⟨w2.heap.size, 1, none⟩ = some (.slice B1 D.waits.length e1) ∧ W.cell? ⟨w2.heap.size, 2, none⟩ = some (.bool D.gone) ∧ W.cell? ⟨g0, off0 + k, none⟩ = some (.string o) ∧ w1.heap.size < W.heap.size ∧ w2.heap.size < W.heap.size ∧ g0 < W.heap.size ∧ Below w4.heap.size w4 W)) (by kernel_rfl) (show KS w4 w1.heap.size w2.heap.size g0 (off0 + k) (.slice (some ⟨g0, off0, none⟩) d.cells.length c0) (.slice B0 d.waits.length e0) (.bool d.gone) (.slice A1 D.cells.length c1) (.slice B1 D.waits.length e1) (.bool D.gone) o _ from k0) (fun hHeld => ?_)
    refine takeH (i := 0) (d := some 52) (v := ?vA0) rfl rfl (by kernel_rfl) (by kernel_rfl) (by kernel_rfl) (fun _ _ _ h => h) (by rfl) ?hyA0 (by assumption) ?restA0
    case hyA0 => (intro W hSw; (try dsimp only at hSw); go_simp <;> with_reducible rfl)
    try simp only [Act.put, List.setIfInBounds_toArray, List.set_cons_zero, List.set_cons_succ]
    refine takeH (i := 1) (d := some 53) (v := ?vA1) rfl rfl (by kernel_rfl) (by kernel_rfl) (by kernel_rfl) (fun _ _ _ h => h) (by rfl) ?hyA1 (by assumption) ?restA1
    case hyA1 => (intro W hSw; (try dsimp only at hSw); go_simp <;> with_reducible rfl)
    try simp only [Act.put, List.setIfInBounds_toArray, List.set_cons_zero, List.set_cons_succ]
    refine takeH (i := 2) (d := some 54) (v := ?vA2) rfl rfl (by kernel_rfl) (by kernel_rfl) (by kernel_rfl) (fun _ _ _ h => h) (by rfl) ?hyA2 (by assumption) ?restA2
    case hyA2 => (intro W hSw; (try dsimp only at hSw); go_simp <;> with_reducible rfl)
    try simp only [Act.put, List.setIfInBounds_toArray, List.set_cons_zero, List.set_cons_succ]
    refine takeH (i := 3) (d := some 55) (v := ?vA3) rfl rfl (by kernel_rfl) (by kernel_rfl) (by kernel_rfl) (fun _ _ _ h => h) (by rfl) ?hyA3 (by assumption) ?restA3
    case hyA3 => (intro W hSw; (try dsimp only at hSw); go_simp <;> with_reducible rfl)
    try simp only [Act.put, List.setIfInBounds_toArray, List.set_cons_zero, List.set_cons_succ]
    refine takeH (i := 4) (d := some 56) (v := ?vA4) rfl rfl (by kernel_rfl) (by kernel_rfl) (by kernel_rfl) (fun _ _ _ h => h) (by rfl) ?hyA4 (by assumption) ?restA4
    case hyA4 => (intro W hSw; (try dsimp only at hSw); go_simp <;> with_reducible rfl)
    try simp only [Act.put, List.setIfInBounds_toArray, List.set_cons_zero, List.set_cons_succ]
    refine takeH (i := 5) (d := some 57) (v := ?vA5) rfl rfl (by kernel_rfl) (by kernel_rfl) (by kernel_rfl) (fun _ _ _ h => h) (by rfl) ?hyA5 (by assumption) ?restA5
    case hyA5 => (intro W hSw; (try dsimp only at hSw); go_simp <;> with_reducible rfl)
    try simp only [Act.put, List.setIfInBounds_toArray, List.set_cons_zero, List.set_cons_succ]
    refine takeH (i := 6) (d := some 58) (v := ?vA6) rfl rfl (by kernel_rfl) (by kernel_rfl) (by kernel_rfl) (fun _ _ _ h => h) (by rfl) ?hyA6 (by assumption) ?restA6
    case hyA6 => (intro W hSw; (try dsimp only at hSw); go_simp <;> with_reducible rfl)
    try simp only [Act.put, List.setIfInBounds_toArray, List.set_cons_zero, List.set_cons_succ]
    refine wpAnyH_ready (rs := [7, 11]) (by kernel_rfl) (by simp) ?_
    refine AllReadyH.cons rfl (fun K hK => ?_) ?_
    · go_simp
      go_at_call 13
      refine (hW2 A1 B1 c1 e1 _ (h1.below k0.bel)).mono ?_
      rintro r w5 ⟨A3, c3, B3, e3, rfl, o3, hb5⟩
      have k5 := k0.next hb5
      have h3 := o3.lies
      refine hK.out _ _ (show KS w4 w1.heap.size w2.heap.size g0 (off0 + k) (.slice (some ⟨g0, off0, none⟩) d.cells.length c0) (.slice B0 d.waits.length e0) (.bool d.gone) (.slice A1 D.cells.length c1) (.slice B1 D.waits.length e1) (.bool D.gone) o _ from k5) (fun hHeld => ?_)
      clear hK K
      try simp only [Act.put, List.setIfInBounds_toArray, List.set_cons_zero, List.set_cons_succ]
      refine takeH (i := 8) (d := some 51) (v := ?vAa78) rfl rfl (by kernel_rfl) (by kernel_rfl) (by kernel_rfl) (fun _ _ _ h => h) (by rfl) ?hyAa78 (by assumption) ?restAa78
      case hyAa78 => (intro W hSw; (try dsimp only at hSw); go_simp <;> with_reducible rfl)
      try simp only [Act.put, List.setIfInBounds_toArray, List.set_cons_zero, List.set_cons_succ]
      refine takeH (i := 9) (d := some 60) (v := ?vAa79) rfl rfl (by kernel_rfl) (by kernel_rfl) (by kernel_rfl) (fun _ _ _ h => h) (by rfl) ?hyAa79 (by assumption) ?restAa79
      case hyAa79 => (intro W hSw; (try dsimp only at hSw); go_simp <;> with_reducible rfl)
      try simp only [Act.put, List.setIfInBounds_toArray, List.set_cons_zero, List.set_cons_succ]
      refine takeH (i := 10) (d := some 61) (v := ?vAa710) rfl rfl (by kernel_rfl) (by kernel_rfl) (by kernel_rfl) (fun _ _ _ h => h) (by rfl) ?hyAa710 (by assumption) ?restAa710
      case hyAa710 => (intro W hSw; (try dsimp only at hSw); go_simp <;> with_reducible rfl)
      try simp only [Act.put, List.setIfInBounds_toArray, List.set_cons_zero, List.set_cons_succ]
      refine wpAnyH_ready (rs := [11]) (by kernel_rfl) (by simp) ?_
      refine AllReadyH.cons rfl (fun K hK => ?_) AllReadyH.nil
      go_simp
      refine hK.out _ _ (show KS w4 w1.heap.size w2.heap.size g0 (off0 + k) (.slice (some ⟨g0, off0, none⟩) d.cells.length c0) (.slice B0 d.waits.length e0) (.bool d.gone) (.slice A1 D.cells.length c1) (.slice B1 D.waits.length e1) (.bool D.gone) o _ from (k5.next (bel_new (Below.refl _ _) _))) (fun hHeld => ?_)
      clear hK K
      have kb := trivial
      try simp only [Act.put, List.setIfInBounds_toArray, List.set_cons_zero, List.set_cons_succ]
      refine wpAnyH_ready (rs := [12]) (by kernel_rfl) (by simp) ?_
      refine AllReadyH.cons rfl (fun K hK => ?_) AllReadyH.nil
      go_simp
      refine hK.out _ _ (show KS w4 w1.heap.size w2.heap.size g0 (off0 + k) (.slice (some ⟨g0, off0, none⟩) d.cells.length c0) (.slice B0 d.waits.length e0) (.bool d.gone) (.slice A1 D.cells.length c1) (.slice B1 D.waits.length e1) (.bool D.gone) o _ from (k5.next (bel_new (Below.refl _ _) _))) (fun hHeld => ?_)
      clear hK K
      have k7 := k5.next (bel_new (Below.refl _ _) (.cells #[.slice A3 d.cells.length c3, .slice B3 d.waits.length e3, .bool d.gone] 26))
      try simp only [Act.put, List.setIfInBounds_toArray, List.set_cons_zero, List.set_cons_succ]
      refine takeH (i := 13) (d := some 12) (v := ?vAa713) rfl rfl (by kernel_rfl) (by kernel_rfl) (by kernel_rfl) (fun _ _ _ h => h) (by rfl) ?hyAa713 (by assumption) ?restAa713
      case hyAa713 => (intro W hSw; (try dsimp only at hSw); go_simp <;> with_reducible rfl)
      try simp only [Act.put, List.setIfInBounds_toArray, List.set_cons_zero, List.set_cons_succ]
      refine wpAnyH_done (by kernel_rfl) ?_ _
      have h3 := h3.below (bel_new (Below.refl _ _) (.cells #[.slice A3 d.cells.length c3, .slice B3 d.waits.length e3, .bool d.gone] 26))
      have b3 := Bx.new w5 26 (.slice A3 d.cells.length c3) (.slice B3 d.waits.length e3) (.bool d.gone)
      have b0 := b0.below k7.bel
      have b1 := b1.below k7.bel
      have h0 := h0.below k7.bel
      have h1 := h1.below k7.bel
      have BX := bel_then BX k7.bel
      clear k0 k5 k7 hb5 o3 kb kk
      have HX := h0
      have b0x := b0
      obtain ⟨g1, off1, rfl, hlt1, hck1⟩ := h1.1.strD k hk3
      rw [H1.out] at hck1
      obtain ⟨⟨x00, x01, x02⟩, _⟩ := b0x.cells
      obtain ⟨⟨x10, x11, x12⟩, _⟩ := b1.cells
      obtain ⟨⟨x30, x31, x32⟩, _⟩ := b3.cells
      have hC := pf_disk A3 B3 (some ⟨g0, off0, none⟩) B0 c3 e3 c0 e0 d _ hd.cells hd.waits h3 HX
      go_wp2_with (go_at_call 9; refine hC.mono ?_; rintro r w9 ⟨rfl, hb9⟩)
      go_ret
      exact ⟨rfl, bel_then BX hb9⟩
    refine AllReadyH.cons rfl (fun K hK => ?_) AllReadyH.nil
    go_simp
    have kb : Bx (w4.drew.alloc (.cells #[.slice none 0 0, .slice none 0 0, .bool false] 26)) w4.heap.size 26 (.slice none 0 0) (.slice none 0 0) (.bool false) := Bx.new w4.drew 26 _ _ _
    refine hK.out _ _ (show KS w4 w1.heap.size w2.heap.size g0 (off0 + k) (.slice (some ⟨g0, off0, none⟩) d.cells.length c0) (.slice B0 d.waits.length e0) (.bool d.gone) (.slice A1 D.cells.length c1) (.slice B1 D.waits.length e1) (.bool D.gone) o _ from (k0.next (bel_new (Below.refl _ _) _))) (fun hHeld => ?_)
    clear hK K
    have ka := k0.next (bel_new (Below.refl _ _) (.cells #[.slice none 0 0, .slice none 0 0, .bool false] 26))
    try simp only [Act.put, List.setIfInBounds_toArray, List.set_cons_zero, List.set_cons_succ]
    refine wpAnyH_ready (rs := [7]) (by kernel_rfl) (by simp) ?_
    refine AllReadyH.cons rfl (fun K hK => ?_) AllReadyH.nil
    go_simp
    go_at_call 13
    refine (hW2 A1 B1 c1 e1 _ (h1.below ka.bel)).mono ?_
    rintro r w5 ⟨A3, c3, B3, e3, rfl, o3, hb5⟩
    have k5 := ka.next hb5
    have h3 := o3.lies
    have kb5 := kb.below hb5
    obtain ⟨⟨z0, z1, z2⟩, zf⟩ := kb5.cells
    refine hK.out _ _ (show KS w4 w1.heap.size w2.heap.size g0 (off0 + k) (.slice (some ⟨g0, off0, none⟩) d.cells.length c0) (.slice B0 d.waits.length e0) (.bool d.gone) (.slice A1 D.cells.length c1) (.slice B1 D.waits.length e1) (.bool D.gone) o _ from k5) (fun hHeld => ?_)
    clear hK K
    try simp only [Act.put, List.setIfInBounds_toArray, List.set_cons_zero, List.set_cons_succ]
    refine takeH (i := 8) (d := some 51) (v := ?vA8) rfl rfl (by kernel_rfl) (by kernel_rfl) (by kernel_rfl) (fun _ _ _ h => h) (by rfl) ?hyA8 (by assumption) ?restA8
    case hyA8 => (intro W hSw; (try dsimp only at hSw); go_simp <;> with_reducible rfl)
    try simp only [Act.put, List.setIfInBounds_toArray, List.set_cons_zero, List.set_cons_succ]
    refine takeH (i := 9) (d := some 60) (v := ?vA9) rfl rfl (by kernel_rfl) (by kernel_rfl) (by kernel_rfl) (fun _ _ _ h => h) (by rfl) ?hyA9 (by assumption) ?restA9
    case hyA9 => (intro W hSw; (try dsimp only at hSw); go_simp <;> with_reducible rfl)
    try simp only [Act.put, List.setIfInBounds_toArray, List.set_cons_zero, List.set_cons_succ]
    refine takeH (i := 10) (d := some 61) (v := ?vA10) rfl rfl (by kernel_rfl) (by kernel_rfl) (by kernel_rfl) (fun _ _ _ h => h) (by rfl) ?hyA10 (by assumption) ?restA10
    case hyA10 => (intro W hSw; (try dsimp only at hSw); go_simp <;> with_reducible rfl)
    try simp only [Act.put, List.setIfInBounds_toArray, List.set_cons_zero, List.set_cons_succ]
    refine wpAnyH_ready (rs := [12]) (by kernel_rfl) (by simp) ?_
    refine AllReadyH.cons rfl (fun K hK => ?_) AllReadyH.nil
    go_simp
    have k7 := kk.next (bel_box k5.bel (Nat.le_refl _) (.slice A3 d.cells.length c3) (.slice B3 d.waits.length e3) (.bool d.gone))
    refine hK.out _ _ (show KS w4 w1.heap.size w2.heap.size g0 (off0 + k) (.slice (some ⟨g0, off0, none⟩) d.cells.length c0) (.slice B0 d.waits.length e0) (.bool d.gone) (.slice A1 D.cells.length c1) (.slice B1 D.waits.length e1) (.bool D.gone) o _ from k7) (fun hHeld => ?_)
    clear hK K
    try simp only [Act.put, List.setIfInBounds_toArray, List.set_cons_zero, List.set_cons_succ]
    refine takeH (i := 13) (d := some 12) (v := ?vA13) rfl rfl (by kernel_rfl) (by kernel_rfl) (by kernel_rfl) (fun _ _ _ h => h) (by rfl) ?hyA13 (by assumption) ?restA13
    case hyA13 => (intro W hSw; (try dsimp only at hSw); go_simp <;> with_reducible rfl)
    try simp only [Act.put, List.setIfInBounds_toArray, List.set_cons_zero, List.set_cons_succ]
    refine wpAnyH_done (by kernel_rfl) ?_ _
    have h3 := h3.box kb5 (.slice A3 d.cells.length c3) (.slice B3 d.waits.length e3) (.bool d.gone)
    have b3 := ((kb5.set0 (.slice A3 d.cells.length c3)).set1 (.slice B3 d.waits.length e3)).set2 (.bool d.gone)
    clear kb5 z0 z1 z2 zf
    have b0 := b0.below k7.bel
    have b1 := b1.below k7.bel
    have h0 := h0.below k7.bel
    have h1 := h1.below k7.bel
    have BX := bel_then BX k7.bel
    clear k0 k5 k7 hb5 o3 kb kk
    have HX := h0
    have b0x := b0
    obtain ⟨g1, off1, rfl, hlt1, hck1⟩ := h1.1.strD k hk3
    rw [H1.out] at hck1
    obtain ⟨⟨x00, x01, x02⟩, _⟩ := b0x.cells
    obtain ⟨⟨x10, x11, x12⟩, _⟩ := b1.cells
    obtain ⟨⟨x30, x31, x32⟩, _⟩ := b3.cells
    have hC := pf_disk A3 B3 (some ⟨g0, off0, none⟩) B0 c3 e3 c0 e0 d _ hd.cells hd.waits h3 HX
    go_wp2_with (go_at_call 9; refine hC.mono ?_; rintro r w9 ⟨rfl, hb9⟩)
    go_ret
    exact ⟨rfl, bel_then BX hb9⟩
  · obtain rfl : p = false := by simpa using hp
    clear hp HC HK
    obtain ⟨⟨x10, x11, x12⟩, _⟩ := b1.cells
    obtain ⟨⟨x20, x21, x22⟩, _⟩ := b2.cells
    have hC := pf_disk A1 B1 A2 B2 c1 e1 c2 e2 D _ hkD.cells hkD.waits h1 h2
    go_wp2_with (go_at_call 9; refine hC.mono ?_; rintro r w9 ⟨rfl, hb9⟩)
    go_ret
    exact ⟨rfl, bel_then BB hb9⟩
end Go.Proofs.Ytimpdjlgfjehcaa
