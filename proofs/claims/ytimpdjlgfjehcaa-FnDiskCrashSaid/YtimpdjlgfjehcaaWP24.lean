/-
  FnDiskCrash's walk.
-/
import Derived.Test.YtimpdjlgfjehcaaCzP
namespace Go.Proofs.Ytimpdjlgfjehcaa
open Go.RowKit

set_option maxRecDepth 100000 in
set_option maxHeartbeats 8000000 in
theorem walk_crash (A : Option Addr) (n cap : Nat) (w : World) (hD : Calls Try.prog 6 #[.slice A n cap] w (DrawnM w)) :
    Calls Try.prog 3 #[.slice A n cap] w fun r w' => r = .returned (.bool true) ∧ Below w.heap.size w w' := by
  by_cases hbig : 1048576 < n
  · have hbig2 : (1048576 : Int) < (n : Int) := by omega
    clear hD hbig
    go_enter Try.func3, Try.ntmps3
    go_wp2
    go_ret
    exact ⟨rfl, Below.refl _ _⟩
  have hbig2 : ¬ (1048576 : Int) < (n : Int) := by omega
  clear hbig
  go_enter Try.func3, Try.ntmps3
  have hC := hD
  go_wp2_with (go_at_call 6; refine hC.mono ?_; rintro r w1 ⟨d, A0, c0, B0, e0, n0, t0, rfl, h0, hd, hm, hb1⟩; refine Hid.out ?_)
  refine Lib.hid ?_
  clear hC hD hbig2
  have BB := hb1
  clear hb1
  have b0 := Bx.new w1 26 (.slice A0 d.cells.length c0) (.slice B0 d.waits.length e0) (.bool d.gone)
  have bl : Below w1.heap.size w1 (w1.alloc (.cells #[.slice A0 d.cells.length c0, .slice B0 d.waits.length e0, .bool d.gone] 26)) := bel_new (Below.refl _ _) _
  have h0 := h0.below bl
  have BB := bel_then BB bl
  clear bl
  have hW := fun A B c e W hW => impl_crash A B c e d n0 t0 W hd hW hm
  have hS := fun A B c e W hW => spec_crash A B c e d n0 t0 W hd hW hm
  have hkD := bulk_crash (d := d) n0 t0
  have hno := crashD_no (d := d) (mask := n0) (tear := t0)
  have h64 := fun h hm => crash_sixty (d := d) h (m := n0) t0 hm
  have hok := fun h hm => crash_okD (d := d) h (m := n0) t0 hm
  have hce := fun h hm n hw => crash_cell (d := d) h (mask := n0) (tear := t0) hm n hw
  have htw := fun h hm => crash_two (d := d) h n0 t0 n0 t0 hm hm
  obtain ⟨D, hDe⟩ : ∃ D, D = crashD d n0 t0 := ⟨_, rfl⟩
  simp only [← hDe] at hW hS hkD hno h64 hok hce htw
  have HN := Lib.hid hno
  have H64 := Lib.hid h64
  have HO := Lib.hid hok
  have HC := Lib.hid hce
  have HT := Lib.hid htw
  clear hDe hno h64 hok hce htw
  obtain ⟨⟨x00, x01, x02⟩, _⟩ := b0.cells
  have hC := hW A0 B0 c0 e0 _ h0
  go_wp2_with (go_at_call 7; refine hC.mono ?_; rintro r w2 ⟨A1, c1, B1, e1, rfl, o1, hb2⟩; refine Hid.out ?_)
  refine Lib.hid ?_
  clear hC hW
  clear x00 x01 x02
  have b0 := b0.below hb2
  have h0 := h0.below hb2
  have BB := bel_then BB hb2
  clear hb2
  have h1 := o1.lies
  clear o1
  have b1 := Bx.new w2 26 (.slice A1 D.cells.length c1) (.slice B1 D.waits.length e1) (.bool D.gone)
  have bl : Below w2.heap.size w2 (w2.alloc (.cells #[.slice A1 D.cells.length c1, .slice B1 D.waits.length e1, .bool D.gone] 26)) := bel_new (Below.refl _ _) _
  have b0 := b0.below bl
  have h0 := h0.below bl
  have h1 := h1.below bl
  have BB := bel_then BB bl
  clear bl
  obtain ⟨⟨x00, x01, x02⟩, _⟩ := b0.cells
  have hC := hS A0 B0 c0 e0 _ h0
  go_wp2_with (go_at_call 8; refine hC.mono ?_; rintro r w3 ⟨A2, c2, B2, e2, rfl, o2, hb3⟩; refine Hid.out ?_)
  refine Lib.hid ?_
  clear hC hS
  clear x00 x01 x02
  have b0 := b0.below hb3
  have b1 := b1.below hb3
  have h0 := h0.below hb3
  have h1 := h1.below hb3
  have BB := bel_then BB hb3
  clear hb3
  have h2 := o2.lies
  clear o2
  have b2 := Bx.new w3 26 (.slice A2 D.cells.length c2) (.slice B2 D.waits.length e2) (.bool D.gone)
  have bl : Below w3.heap.size w3 (w3.alloc (.cells #[.slice A2 D.cells.length c2, .slice B2 D.waits.length e2, .bool D.gone] 26)) := bel_new (Below.refl _ _) _
  have b0 := b0.below bl
  have b1 := b1.below bl
  have h0 := h0.below bl
  have h1 := h1.below bl
  have h2 := h2.below bl
  have BB := bel_then BB bl
  clear bl
  by_cases hp : DkOk d ∧ 0 ≤ n0
  · obtain ⟨hok, hn0⟩ := hp
    have hl := H64.out hok hn0
    have hl2 : d.cells.length = 64 := hok.1
    have hokD := HO.out hok hn0
    have htwo := HT.out hok hn0
    have HL := Lib.hid hl
    have HL2 := Lib.hid hl2
    have HCE := Lib.hid (HC.out hok hn0)
    have HTW := Lib.hid htwo
    have HZE := Lib.hid (crash_zero hok)
    have hwl : d.waits.length ≤ 1048576 := hd.waits
    have hcl : d.cells.length ≤ 1048576 := hd.cells
    have hgt : 0 < D.cells.length := by omega
    clear HN H64 HO HC HT hl hl2 htwo
    obtain ⟨⟨x10, x11, x12⟩, _⟩ := b1.cells
    obtain ⟨⟨x20, x21, x22⟩, _⟩ := b2.cells
    have hC := pf_disk A1 B1 A2 B2 c1 e1 c2 e2 D _ hkD.cells hkD.waits h1 h2
    go_wp2_with (go_at_call 9; refine hC.mono ?_; rintro r w4 ⟨rfl, hb4⟩; refine Hid.out ?_)
    refine Lib.hid ?_
    clear hC
    clear x10 x11 x12 x20 x21 x22
    have b0 := b0.below hb4
    have b1 := b1.below hb4
    have b2 := b2.below hb4
    have h0 := h0.below hb4
    have h1 := h1.below hb4
    have h2 := h2.below hb4
    have BB := bel_then BB hb4
    clear hb4
    clear b2 h2
    obtain ⟨⟨x00, x01, x02⟩, _⟩ := b0.cells
    obtain ⟨⟨x10, x11, x12⟩, _⟩ := b1.cells
    go_wp2_with fail
    go_loopw [9] (fun i wr => ∃ k : Nat, k ≤ d.cells.length ∧ i = .int .i64 k ∧ Bx wr w1.heap.size 26 (.slice A0 d.cells.length c0) (.slice B0 d.waits.length e0) (.bool d.gone) ∧ Bx wr w2.heap.size 26 (.slice A1 D.cells.length c1) (.slice B1 D.waits.length e1) (.bool D.gone) ∧ DkAt wr A0 B0 d ∧ DkAt wr A1 B1 D ∧ Below w.heap.size w wr) (fun i _ => d.cells.length - (intOf i).toNat)
    case atStart => exact ⟨0, Nat.zero_le _, rfl, b0, b1, h0, h1, BB⟩
    case round =>
      clear x00 x01 x02 x10 x11 x12 b0 b1 h0 h1 BB hgt
      obtain ⟨k, hk, rfl, rb0, rb1, rh0, rh1, RB⟩ := hrel
      obtain ⟨⟨x00, x01, x02⟩, _⟩ := rb0.cells
      obtain ⟨⟨x10, x11, x12⟩, _⟩ := rb1.cells
      by_cases hlt : k < d.cells.length
      · have hlt' : (k : Int) < (d.cells.length : Int) := by omega
        have hlD : (k : Int) < (D.cells.length : Int) := by have := HL.out; have := HL2.out; omega
        go_wp2
        go_loop [10, 11] (fun b j => ∃ m : Nat, m ≤ d.waits.length ∧ j = .int .i64 m ∧ b = .bool (wtd d.waits k m)) (fun _ j => d.waits.length - (intOf j).toNat)
        case atStart => exact ⟨0, Nat.zero_le _, rfl, by simp [wtd]⟩
        case round =>
          obtain ⟨m, hm2, rfl, rfl⟩ := hrel
          by_cases hmt : m < d.waits.length
          · have hmt' : (m : Int) < (d.waits.length : Int) := by omega
            have hnx := wtd_next d.waits (k : Int) m hmt
            cases hv : wtd d.waits (k : Int) m
            · rw [hv, Bool.false_or] at hnx
              have BX := RB
              obtain ⟨bw, ow, rfl, hlw, u0, u1⟩ := rh0.2.wt m hmt
              obtain ⟨q, hq⟩ : ∃ q, q = d.waits[m].num := ⟨_, rfl⟩
              rw [← hq] at u0 hnx
              clear hq u1
              by_cases hqk : q = (k : Int)
              · subst hqk
                have hqq : ((k : Int) == (k : Int)) = true := by simp
                have HX := Lib.hid hnx
                clear hnx
                go_wp2_with fail
                go_round
                case rel => exact ⟨m + 1, by omega, by go_num, by rw [HX.out]; simp⟩
                case measure => simp [intOf]; omega
              · have hqq : (q == (k : Int)) = false := by simpa using hqk
                have HX := Lib.hid hnx
                clear hnx
                go_wp2_with fail
                go_round
                case rel => exact ⟨m + 1, by omega, by go_num, by rw [HX.out]; simp [hqk]⟩
                case measure => simp [intOf]; omega
            · rw [hv, Bool.true_or] at hnx
              have HX := Lib.hid hnx
              clear hnx
              go_wp2_with fail
              go_round
              case rel => exact ⟨m + 1, by omega, by go_num, by rw [HX.out]⟩
              case measure => simp [intOf]; omega
          · have hme : m = d.waits.length := by omega
            subst hme
            cases hv : wtd d.waits (k : Int) d.waits.length
            · have hceq := HCE.out k hv
              obtain ⟨g0, off0, eA0, hlt0, hck0⟩ := rh0.1.strD k hlt
              obtain ⟨g1, off1, eA1, hlt1, hck1⟩ := rh1.1.strD k (by have := HL.out; have := HL2.out; omega)
              rw [hceq] at hck1
              obtain ⟨o, ho⟩ : ∃ o, o = d.cells.getD k none8 := ⟨_, rfl⟩
              rw [← ho] at hck0 hck1
              subst eA0
              subst eA1
              have hoo : (o.toList != o.toList) = false := by simp
              clear ho hceq
              go_upto_region 17 with fail
              refine wp_region_held_drew (S := (fun W : World => W.cell? ⟨w1.heap.size, 0, none⟩ = some (.slice (some ⟨g0, off0, none⟩) d.cells.length c0) ∧ W.cell? ⟨w2.heap.size, 0, none⟩ = some (.slice (some ⟨g1, off1, none⟩) D.cells.length c1) ∧ W.cell? ⟨g0, off0 + k, none⟩ = some (.string o) ∧ W.cell? ⟨g1, off1 + k, none⟩ = some (.string o))) (by kernel_rfl) (show (fun W : World => W.cell? ⟨w1.heap.size, 0, none⟩ = some (.slice (some ⟨g0, off0, none⟩) d.cells.length c0) ∧ W.cell? ⟨w2.heap.size, 0, none⟩ = some (.slice (some ⟨g1, off1, none⟩) D.cells.length c1) ∧ W.cell? ⟨g0, off0 + k, none⟩ = some (.string o) ∧ W.cell? ⟨g1, off1 + k, none⟩ = some (.string o)) _ from (And.intro x00 (And.intro x10 (And.intro hck0 hck1)))) (fun hHeld => ?_)
              refine takeH (i := 0) (d := some 67) (v := ?vA0) rfl rfl (by kernel_rfl) (by kernel_rfl) (by kernel_rfl) (fun _ _ _ h => h) (by rfl) ?hyA0 (by assumption) ?restA0
              case hyA0 => (intro W hSw; (try dsimp only at hSw); go_simp <;> with_reducible rfl)
              try simp only [Act.put, List.setIfInBounds_toArray, List.set_cons_zero, List.set_cons_succ]
              refine takeH (i := 1) (d := some 68) (v := ?vA1) rfl rfl (by kernel_rfl) (by kernel_rfl) (by kernel_rfl) (fun _ _ _ h => h) (by rfl) ?hyA1 (by assumption) ?restA1
              case hyA1 => (intro W hSw; (try dsimp only at hSw); go_simp <;> with_reducible rfl)
              try simp only [Act.put, List.setIfInBounds_toArray, List.set_cons_zero, List.set_cons_succ]
              refine takeH (i := 2) (d := some 69) (v := ?vA2) rfl rfl (by kernel_rfl) (by kernel_rfl) (by kernel_rfl) (fun _ _ _ h => h) (by rfl) ?hyA2 (by assumption) ?restA2
              case hyA2 => (intro W hSw; (try dsimp only at hSw); go_simp <;> with_reducible rfl)
              try simp only [Act.put, List.setIfInBounds_toArray, List.set_cons_zero, List.set_cons_succ]
              refine takeH (i := 3) (d := some 70) (v := ?vA3) rfl rfl (by kernel_rfl) (by kernel_rfl) (by kernel_rfl) (fun _ _ _ h => h) (by rfl) ?hyA3 (by assumption) ?restA3
              case hyA3 => (intro W hSw; (try dsimp only at hSw); go_simp <;> with_reducible rfl)
              try simp only [Act.put, List.setIfInBounds_toArray, List.set_cons_zero, List.set_cons_succ]
              refine takeH (i := 4) (d := some 71) (v := ?vA4) rfl rfl (by kernel_rfl) (by kernel_rfl) (by kernel_rfl) (fun _ _ _ h => h) (by rfl) ?hyA4 (by assumption) ?restA4
              case hyA4 => (intro W hSw; (try dsimp only at hSw); go_simp <;> with_reducible rfl)
              try simp only [Act.put, List.setIfInBounds_toArray, List.set_cons_zero, List.set_cons_succ]
              refine takeH (i := 5) (d := some 72) (v := ?vA5) rfl rfl (by kernel_rfl) (by kernel_rfl) (by kernel_rfl) (fun _ _ _ h => h) (by rfl) ?hyA5 (by assumption) ?restA5
              case hyA5 => (intro W hSw; (try dsimp only at hSw); go_simp <;> with_reducible rfl)
              try simp only [Act.put, List.setIfInBounds_toArray, List.set_cons_zero, List.set_cons_succ]
              refine takeH (i := 6) (d := some 73) (v := ?vA6) rfl rfl (by kernel_rfl) (by kernel_rfl) (by kernel_rfl) (fun _ _ _ h => h) (by rfl) ?hyA6 (by assumption) ?restA6
              case hyA6 => (intro W hSw; (try dsimp only at hSw); go_simp <;> with_reducible rfl)
              try simp only [Act.put, List.setIfInBounds_toArray, List.set_cons_zero, List.set_cons_succ]
              refine takeH (i := 7) (d := some 74) (v := ?vA7) rfl rfl (by kernel_rfl) (by kernel_rfl) (by kernel_rfl) (fun _ _ _ h => h) (by rfl) ?hyA7 (by assumption) ?restA7
              case hyA7 => (intro W hSw; (try dsimp only at hSw); go_simp <;> with_reducible rfl)
              try simp only [Act.put, List.setIfInBounds_toArray, List.set_cons_zero, List.set_cons_succ]
              refine takeH (i := 8) (d := some 75) (v := ?vA8) rfl rfl (by kernel_rfl) (by kernel_rfl) (by kernel_rfl) (fun _ _ _ h => h) (by rfl) ?hyA8 (by assumption) ?restA8
              case hyA8 => (intro W hSw; (try dsimp only at hSw); go_simp <;> with_reducible rfl)
              try simp only [Act.put, List.setIfInBounds_toArray, List.set_cons_zero, List.set_cons_succ]
              refine takeH (i := 9) (d := some 76) (v := ?vA9) rfl rfl (by kernel_rfl) (by kernel_rfl) (by kernel_rfl) (fun _ _ _ h => h) (by rfl) ?hyA9 (by assumption) ?restA9
              case hyA9 => (intro W hSw; (try dsimp only at hSw); go_simp <;> with_reducible rfl)
              try simp only [Act.put, List.setIfInBounds_toArray, List.set_cons_zero, List.set_cons_succ]
              refine takeH (i := 10) (d := some 77) (v := ?vA10) rfl rfl (by kernel_rfl) (by kernel_rfl) (by kernel_rfl) (fun _ _ _ h => h) (by rfl) ?hyA10 (by assumption) ?restA10
              case hyA10 => (intro W hSw; (try dsimp only at hSw); go_simp <;> with_reducible rfl)
              try simp only [Act.put, List.setIfInBounds_toArray, List.set_cons_zero, List.set_cons_succ]
              refine takeH (i := 11) (d := some 78) (v := ?vA11) rfl rfl (by kernel_rfl) (by kernel_rfl) (by kernel_rfl) (fun _ _ _ h => h) (by rfl) ?hyA11 (by assumption) ?restA11
              case hyA11 => (intro W hSw; (try dsimp only at hSw); go_simp <;> with_reducible rfl)
              try simp only [Act.put, List.setIfInBounds_toArray, List.set_cons_zero, List.set_cons_succ]
              refine takeH (i := 12) (d := some 79) (v := ?vA12) rfl rfl (by kernel_rfl) (by kernel_rfl) (by kernel_rfl) (fun _ _ _ h => h) (by rfl) ?hyA12 (by assumption) ?restA12
              case hyA12 => (intro W hSw; (try dsimp only at hSw); go_simp <;> with_reducible rfl)
              try simp only [Act.put, List.setIfInBounds_toArray, List.set_cons_zero, List.set_cons_succ]
              refine takeH (i := 13) (d := some 80) (v := ?vA13) rfl rfl (by kernel_rfl) (by kernel_rfl) (by kernel_rfl) (fun _ _ _ h => h) (by rfl) ?hyA13 (by assumption) ?restA13
              case hyA13 => (intro W hSw; (try dsimp only at hSw); go_simp <;> with_reducible rfl)
              try simp only [Act.put, List.setIfInBounds_toArray, List.set_cons_zero, List.set_cons_succ]
              refine takeH (i := 14) (d := some 81) (v := ?vA14) rfl rfl (by kernel_rfl) (by kernel_rfl) (by kernel_rfl) (fun _ _ _ h => h) (by rfl) ?hyA14 (by assumption) ?restA14
              case hyA14 => (intro W hSw; (try dsimp only at hSw); go_simp <;> with_reducible rfl)
              try simp only [Act.put, List.setIfInBounds_toArray, List.set_cons_zero, List.set_cons_succ]
              refine wpAnyH_done (by kernel_rfl) ?_ _
              go_wp2
              go_roundw
              case rel => exact ⟨k + 1, by omega, by go_num, rb0, rb1, rh0.below (below_drewN (Below.refl _ _) 1), rh1.below (below_drewN (Below.refl _ _) 1), below_drewN RB 1⟩
              case measure => simp [intOf]; omega
            · go_upto_region 17 with fail
              refine wp_region_held_drew (S := (fun _ => True)) (by kernel_rfl) trivial (fun hHeld => ?_)
              refine takeH (i := 0) (d := some 67) (v := ?vB0) rfl rfl (by kernel_rfl) (by kernel_rfl) (by kernel_rfl) (fun _ _ _ h => h) (by rfl) ?hyB0 trivial ?restB0
              case hyB0 => (intro W hSw; (try dsimp only at hSw); go_simp <;> with_reducible rfl)
              try simp only [Act.put, List.setIfInBounds_toArray, List.set_cons_zero, List.set_cons_succ]
              refine takeH (i := 1) (d := some 68) (v := ?vB1) rfl rfl (by kernel_rfl) (by kernel_rfl) (by kernel_rfl) (fun _ _ _ h => h) (by rfl) ?hyB1 trivial ?restB1
              case hyB1 => (intro W hSw; (try dsimp only at hSw); go_simp <;> with_reducible rfl)
              try simp only [Act.put, List.setIfInBounds_toArray, List.set_cons_zero, List.set_cons_succ]
              refine takeH (i := 2) (d := some 69) (v := ?vB2) rfl rfl (by kernel_rfl) (by kernel_rfl) (by kernel_rfl) (fun _ _ _ h => h) (by rfl) ?hyB2 trivial ?restB2
              case hyB2 => (intro W hSw; (try dsimp only at hSw); go_simp <;> with_reducible rfl)
              try simp only [Act.put, List.setIfInBounds_toArray, List.set_cons_zero, List.set_cons_succ]
              refine skipH (i := 3) (d := some 70) rfl rfl (by kernel_rfl) (by kernel_rfl) (by kernel_rfl) (fun _ _ _ h => h) (by rfl) trivial ?_
              try simp only [Act.put, List.setIfInBounds_toArray, List.set_cons_zero, List.set_cons_succ]
              refine skipH (i := 4) (d := some 71) rfl rfl (by kernel_rfl) (by kernel_rfl) (by kernel_rfl) (fun _ _ _ h => h) (by rfl) trivial ?_
              try simp only [Act.put, List.setIfInBounds_toArray, List.set_cons_zero, List.set_cons_succ]
              refine skipH (i := 5) (d := some 72) rfl rfl (by kernel_rfl) (by kernel_rfl) (by kernel_rfl) (fun _ _ _ h => h) (by rfl) trivial ?_
              try simp only [Act.put, List.setIfInBounds_toArray, List.set_cons_zero, List.set_cons_succ]
              refine skipH (i := 6) (d := some 73) rfl rfl (by kernel_rfl) (by kernel_rfl) (by kernel_rfl) (fun _ _ _ h => h) (by rfl) trivial ?_
              try simp only [Act.put, List.setIfInBounds_toArray, List.set_cons_zero, List.set_cons_succ]
              refine skipH (i := 7) (d := some 74) rfl rfl (by kernel_rfl) (by kernel_rfl) (by kernel_rfl) (fun _ _ _ h => h) (by rfl) trivial ?_
              try simp only [Act.put, List.setIfInBounds_toArray, List.set_cons_zero, List.set_cons_succ]
              refine skipH (i := 8) (d := some 75) rfl rfl (by kernel_rfl) (by kernel_rfl) (by kernel_rfl) (fun _ _ _ h => h) (by rfl) trivial ?_
              try simp only [Act.put, List.setIfInBounds_toArray, List.set_cons_zero, List.set_cons_succ]
              refine skipH (i := 9) (d := some 76) rfl rfl (by kernel_rfl) (by kernel_rfl) (by kernel_rfl) (fun _ _ _ h => h) (by rfl) trivial ?_
              try simp only [Act.put, List.setIfInBounds_toArray, List.set_cons_zero, List.set_cons_succ]
              refine skipH (i := 10) (d := some 77) rfl rfl (by kernel_rfl) (by kernel_rfl) (by kernel_rfl) (fun _ _ _ h => h) (by rfl) trivial ?_
              try simp only [Act.put, List.setIfInBounds_toArray, List.set_cons_zero, List.set_cons_succ]
              refine skipH (i := 11) (d := some 78) rfl rfl (by kernel_rfl) (by kernel_rfl) (by kernel_rfl) (fun _ _ _ h => h) (by rfl) trivial ?_
              try simp only [Act.put, List.setIfInBounds_toArray, List.set_cons_zero, List.set_cons_succ]
              refine skipH (i := 12) (d := some 79) rfl rfl (by kernel_rfl) (by kernel_rfl) (by kernel_rfl) (fun _ _ _ h => h) (by rfl) trivial ?_
              try simp only [Act.put, List.setIfInBounds_toArray, List.set_cons_zero, List.set_cons_succ]
              refine skipH (i := 13) (d := some 80) rfl rfl (by kernel_rfl) (by kernel_rfl) (by kernel_rfl) (fun _ _ _ h => h) (by rfl) trivial ?_
              try simp only [Act.put, List.setIfInBounds_toArray, List.set_cons_zero, List.set_cons_succ]
              refine takeH (i := 14) (d := some 81) (v := ?vB14) rfl rfl (by kernel_rfl) (by kernel_rfl) (by kernel_rfl) (fun _ _ _ h => h) (by rfl) ?hyB14 trivial ?restB14
              case hyB14 => (intro W hSw; (try dsimp only at hSw); go_simp <;> with_reducible rfl)
              try simp only [Act.put, List.setIfInBounds_toArray, List.set_cons_zero, List.set_cons_succ]
              refine wpAnyH_done (by kernel_rfl) ?_ _
              go_wp2
              go_roundw
              case rel => exact ⟨k + 1, by omega, by go_num, rb0, rb1, rh0.below (below_drewN (Below.refl _ _) 1), rh1.below (below_drewN (Below.refl _ _) 1), below_drewN RB 1⟩
              case measure => simp [intOf]; omega
      · have hke : k = d.cells.length := by omega
        subst hke
        have hOk := fun W hW => impl_okAt A1 B1 c1 e1 D W hkD hW hokD
        have hC2 := fun W hW => impl_crash A1 B1 c1 e1 D n0 t0 W hkD hW hm
        rw [HTW.out] at hC2
        have hP := fun A B c e W hW hW1 => pf_disk A B A1 B1 c e c1 e1 D W hkD.cells hkD.waits hW hW1
        have hC0 := fun W hW => impl_crash A0 B0 c0 e0 d 0 (-1) W hd hW (by decide)
        have hbE := bulk_crash (d := d) 0 (-1)
        have hze := HZE.out
        obtain ⟨E, hE⟩ : ∃ E, E = crashD d 0 (-1) := ⟨_, rfl⟩
        simp only [← hE] at hC0 hbE hze
        have hPt := fun A c W hW hW1 => pf_texts2 A A0 c c0 E.cells d.cells W hze hbE.cells hW hW1
        have hfc := fun x y z w => fld_cells x y z w
        have HH0 := Lib.hid rh0
        clear hE hze hokD HTW HZE HCE
        have k0 : K6 wr w1.heap.size w2.heap.size (.slice A0 d.cells.length c0) (.slice B0 d.waits.length e0) (.bool d.gone) (.slice A1 D.cells.length c1) (.slice B1 D.waits.length e1) (.bool D.gone) wr := ⟨x00, x01, x02, x10, x11, x12, rb0.lt, rb1.lt, Below.refl _ _⟩
        go_upto_region 19 with fail
        have k0 := k0.drew
        clear x00 x01 x02 x10 x11 x12
        refine wp_region_held_drew (S := (fun W => W.cell? ⟨w1.heap.size, 0, none⟩ = some (.slice A0 d.cells.length c0) ∧ W.cell? ⟨w1.heap.size, 1, none⟩ = some (.slice B0 d.waits.length e0) ∧ W.cell? ⟨w1.heap.size, 2, none⟩ = some (.bool d.gone) ∧ W.cell? ⟨w2.heap.size, 0, none⟩ = some (.slice A1 D.cells.length c1) ∧ W.cell? ⟨w2.heap.size, 1, none⟩ = some (.slice B1 D.waits.length e1) ∧ W.cell? ⟨w2.heap.size, 2, none⟩ = some (.bool D.gone) ∧ w1.heap.size < W.heap.size ∧ w2.heap.size < W.heap.size ∧ Below wr.heap.size wr W)) (by kernel_rfl) (show K6 wr w1.heap.size w2.heap.size (.slice A0 d.cells.length c0) (.slice B0 d.waits.length e0) (.bool d.gone) (.slice A1 D.cells.length c1) (.slice B1 D.waits.length e1) (.bool D.gone) _ from k0) (fun hHeld => ?_)
        refine takeH (i := 0) (d := some 82) (v := ?vC0) rfl rfl (by kernel_rfl) (by kernel_rfl) (by kernel_rfl) (fun _ _ _ h => h) (by rfl) ?hyC0 (by assumption) ?restC0
        case hyC0 => (intro W hSw; (try dsimp only at hSw); go_simp <;> with_reducible rfl)
        try simp only [Act.put, List.setIfInBounds_toArray, List.set_cons_zero, List.set_cons_succ]
        refine wpAnyH_ready (rs := [1]) (by kernel_rfl) (by simp) ?_
        refine AllReadyH.cons rfl (fun K hK => ?_) AllReadyH.nil
        go_simp
        go_at_call 10
        refine (hOk _ (rh1.below k0.bel)).mono ?_
        rintro r w5 ⟨rfl, hb5⟩
        have k5 := k0.next hb5
        refine hK.out _ _ (show K6 wr w1.heap.size w2.heap.size (.slice A0 d.cells.length c0) (.slice B0 d.waits.length e0) (.bool d.gone) (.slice A1 D.cells.length c1) (.slice B1 D.waits.length e1) (.bool D.gone) _ from k5) (fun hHeld => ?_)
        clear hK K
        try simp only [Act.put, List.setIfInBounds_toArray, List.set_cons_zero, List.set_cons_succ]
        refine takeH (i := 2) (d := some 84) (v := ?vC2) rfl rfl (by kernel_rfl) (by kernel_rfl) (by kernel_rfl) (fun _ _ _ h => h) (by rfl) ?hyC2 (by assumption) ?restC2
        case hyC2 => (intro W hSw; (try dsimp only at hSw); go_simp <;> with_reducible rfl)
        try simp only [Act.put, List.setIfInBounds_toArray, List.set_cons_zero, List.set_cons_succ]
        refine takeH (i := 3) (d := some 85) (v := ?vC3) rfl rfl (by kernel_rfl) (by kernel_rfl) (by kernel_rfl) (fun _ _ _ h => h) (by rfl) ?hyC3 (by assumption) ?restC3
        case hyC3 => (intro W hSw; (try dsimp only at hSw); go_simp <;> with_reducible rfl)
        try simp only [Act.put, List.setIfInBounds_toArray, List.set_cons_zero, List.set_cons_succ]
        refine takeH (i := 4) (d := some 86) (v := ?vC4) rfl rfl (by kernel_rfl) (by kernel_rfl) (by kernel_rfl) (fun _ _ _ h => h) (by rfl) ?hyC4 (by assumption) ?restC4
        case hyC4 => (intro W hSw; (try dsimp only at hSw); go_simp <;> with_reducible rfl)
        try simp only [Act.put, List.setIfInBounds_toArray, List.set_cons_zero, List.set_cons_succ]
        refine takeH (i := 5) (d := some 87) (v := ?vC5) rfl rfl (by kernel_rfl) (by kernel_rfl) (by kernel_rfl) (fun _ _ _ h => h) (by rfl) ?hyC5 (by assumption) ?restC5
        case hyC5 => (intro W hSw; (try dsimp only at hSw); go_simp <;> with_reducible rfl)
        try simp only [Act.put, List.setIfInBounds_toArray, List.set_cons_zero, List.set_cons_succ]
        refine takeH (i := 7) (d := some 89) (v := ?vC7) rfl rfl (by kernel_rfl) (by kernel_rfl) (by kernel_rfl) (fun _ _ _ h => h) (by rfl) ?hyC7 (by assumption) ?restC7
        case hyC7 => (intro W hSw; (try dsimp only at hSw); go_simp <;> with_reducible rfl)
        try simp only [Act.put, List.setIfInBounds_toArray, List.set_cons_zero, List.set_cons_succ]
        refine wpAnyH_ready (rs := [6]) (by kernel_rfl) (by simp) ?_
        refine AllReadyH.cons rfl (fun K hK => ?_) AllReadyH.nil
        go_simp
        go_at_call 7
        refine (hC2 _ (rh1.below k5.bel)).mono ?_
        rintro r w6 ⟨A4, c4, B4, e4, rfl, o4, hb6⟩
        have k6 := k5.next hb6
        refine hK.out _ _ (show K6 wr w1.heap.size w2.heap.size (.slice A0 d.cells.length c0) (.slice B0 d.waits.length e0) (.bool d.gone) (.slice A1 D.cells.length c1) (.slice B1 D.waits.length e1) (.bool D.gone) _ from k6) (fun hHeld => ?_)
        clear hK K
        try simp only [Act.put, List.setIfInBounds_toArray, List.set_cons_zero, List.set_cons_succ]
        refine wpAnyH_ready (rs := [8]) (by kernel_rfl) (by simp) ?_
        refine AllReadyH.cons rfl (fun K hK => ?_) AllReadyH.nil
        go_simp
        go_at_call 9
        refine (hP A4 B4 c4 e4 _ o4.lies (rh1.below k6.bel)).mono ?_
        rintro r w7 ⟨rfl, hb7⟩
        have k7 := k6.next hb7
        refine hK.out _ _ (show K6 wr w1.heap.size w2.heap.size (.slice A0 d.cells.length c0) (.slice B0 d.waits.length e0) (.bool d.gone) (.slice A1 D.cells.length c1) (.slice B1 D.waits.length e1) (.bool D.gone) _ from k7) (fun hHeld => ?_)
        clear hK K
        try simp only [Act.put, List.setIfInBounds_toArray, List.set_cons_zero, List.set_cons_succ]
        refine takeH (i := 9) (d := some 91) (v := ?vC9) rfl rfl (by kernel_rfl) (by kernel_rfl) (by kernel_rfl) (fun _ _ _ h => h) (by rfl) ?hyC9 (by assumption) ?restC9
        case hyC9 => (intro W hSw; (try dsimp only at hSw); go_simp <;> with_reducible rfl)
        try simp only [Act.put, List.setIfInBounds_toArray, List.set_cons_zero, List.set_cons_succ]
        refine takeH (i := 10) (d := some 92) (v := ?vC10) rfl rfl (by kernel_rfl) (by kernel_rfl) (by kernel_rfl) (fun _ _ _ h => h) (by rfl) ?hyC10 (by assumption) ?restC10
        case hyC10 => (intro W hSw; (try dsimp only at hSw); go_simp <;> with_reducible rfl)
        try simp only [Act.put, List.setIfInBounds_toArray, List.set_cons_zero, List.set_cons_succ]
        refine takeH (i := 11) (d := some 93) (v := ?vC11) rfl rfl (by kernel_rfl) (by kernel_rfl) (by kernel_rfl) (fun _ _ _ h => h) (by rfl) ?hyC11 (by assumption) ?restC11
        case hyC11 => (intro W hSw; (try dsimp only at hSw); go_simp <;> with_reducible rfl)
        try simp only [Act.put, List.setIfInBounds_toArray, List.set_cons_zero, List.set_cons_succ]
        refine takeH (i := 14) (d := some 96) (v := ?vC14) rfl rfl (by kernel_rfl) (by kernel_rfl) (by kernel_rfl) (fun _ _ _ h => h) (by rfl) ?hyC14 (by assumption) ?restC14
        case hyC14 => (intro W hSw; (try dsimp only at hSw); go_simp <;> with_reducible rfl)
        try simp only [Act.put, List.setIfInBounds_toArray, List.set_cons_zero, List.set_cons_succ]
        refine takeH (i := 15) (d := some 97) (v := ?vC15) rfl rfl (by kernel_rfl) (by kernel_rfl) (by kernel_rfl) (fun _ _ _ h => h) (by rfl) ?hyC15 (by assumption) ?restC15
        case hyC15 => (intro W hSw; (try dsimp only at hSw); go_simp <;> with_reducible rfl)
        try simp only [Act.put, List.setIfInBounds_toArray, List.set_cons_zero, List.set_cons_succ]
        refine wpAnyH_ready (rs := [12]) (by kernel_rfl) (by simp) ?_
        refine AllReadyH.cons rfl (fun K hK => ?_) AllReadyH.nil
        go_simp
        go_at_call 7
        refine (hC0 _ (rh0.below k7.bel)).mono ?_
        rintro r w8 ⟨A5, c5, B5, e5, rfl, o5, hb8⟩
        have k8 := k7.next hb8
        refine hK.out _ _ (show K6 wr w1.heap.size w2.heap.size (.slice A0 d.cells.length c0) (.slice B0 d.waits.length e0) (.bool d.gone) (.slice A1 D.cells.length c1) (.slice B1 D.waits.length e1) (.bool D.gone) _ from k8) (fun hHeld => ?_)
        clear hK K
        try simp only [Act.put, List.setIfInBounds_toArray, List.set_cons_zero, List.set_cons_succ]
        refine takeH (i := 13) (d := some 95) (v := ?vC13) rfl rfl (by kernel_rfl) (by kernel_rfl) (by kernel_rfl) (fun _ _ _ h => h) (by rfl) ?hyC13 (by assumption) ?restC13
        case hyC13 => (intro W hSw; (try dsimp only at hSw); go_simp <;> with_reducible rfl)
        try simp only [Act.put, List.setIfInBounds_toArray, List.set_cons_zero, List.set_cons_succ]
        refine wpAnyH_ready (rs := [16]) (by kernel_rfl) (by simp) ?_
        refine AllReadyH.cons rfl (fun K hK => ?_) AllReadyH.nil
        go_simp
        go_at_call 11
        refine (hPt A5 c5 _ o5.lies.1 (rh0.below k8.bel).1).mono ?_
        rintro r w9 ⟨rfl, hb9⟩
        have k9 := k8.next hb9
        refine hK.out _ _ (show K6 wr w1.heap.size w2.heap.size (.slice A0 d.cells.length c0) (.slice B0 d.waits.length e0) (.bool d.gone) (.slice A1 D.cells.length c1) (.slice B1 D.waits.length e1) (.bool D.gone) _ from k9) (fun hHeld => ?_)
        clear hK K
        try simp only [Act.put, List.setIfInBounds_toArray, List.set_cons_zero, List.set_cons_succ]
        refine takeH (i := 17) (d := some 99) (v := ?vC17) rfl rfl (by kernel_rfl) (by kernel_rfl) (by kernel_rfl) (fun _ _ _ h => h) (by rfl) ?hyC17 (by assumption) ?restC17
        case hyC17 => (intro W hSw; (try dsimp only at hSw); go_simp <;> with_reducible rfl)
        try simp only [Act.put, List.setIfInBounds_toArray, List.set_cons_zero, List.set_cons_succ]
        refine takeH (i := 18) (d := some 2) (v := ?vC18) rfl rfl (by kernel_rfl) (by kernel_rfl) (by kernel_rfl) (fun _ _ _ h => h) (by rfl) ?hyC18 (by assumption) ?restC18
        case hyC18 => (intro W hSw; (try dsimp only at hSw); go_simp <;> with_reducible rfl)
        try simp only [Act.put, List.setIfInBounds_toArray, List.set_cons_zero, List.set_cons_succ]
        refine wpAnyH_done (by kernel_rfl) ?_ _
        go_wp2_with fail
        go_ret
        exact ⟨rfl, bel_then RB k9.bel⟩
  · have hDn : Hid (D.cells.length = 0) := Lib.hid (by rw [HN.out hp]; rfl)
    clear hp HN H64 HO HC HT
    obtain ⟨⟨x10, x11, x12⟩, _⟩ := b1.cells
    obtain ⟨⟨x20, x21, x22⟩, _⟩ := b2.cells
    have hC := fun W hW1 hW3 => pf_disk A1 B1 A2 B2 c1 e1 c2 e2 D W hkD.cells hkD.waits hW1 hW3
    have hC1 := hC _ h1 h2
    go_wp2_with (go_at_call 9; refine hC1.mono ?_; rintro r w9 ⟨rfl, hb9⟩; have b1x := b1.below hb9; obtain ⟨⟨z0, z1, z2⟩, _⟩ := b1x.cells; have hDz := hDn.out)
    go_ret
    exact ⟨rfl, bel_then BB hb9⟩
end Go.Proofs.Ytimpdjlgfjehcaa
