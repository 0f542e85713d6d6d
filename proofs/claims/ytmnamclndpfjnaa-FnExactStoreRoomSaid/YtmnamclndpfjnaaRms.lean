/-
  How many rows are free, now and in the next group, as the specification counts them.
-/
import Derived.Test.YtmnamclndpfjnaaDrq
import Derived.Test.YtmnamclndpfjnaaNxQ
import Derived.Test.YtmnamclndpfjnaaLCp
import Derived.Test.YtmnamclndpfjnaaPOk
import Derived.Test.YtmnamclndpfjnaaRmi
import Derived.Test.YtmnamclndpfjnaaSpR
namespace Go.Proofs.Ytmnamclndpfjnaa
open Go.RowKit

set_option maxRecDepth 100000 in
set_option maxHeartbeats 8000000 in
theorem spec_sroom (x : SA) (s : St) (w : World) (hs : SBulk s) (hA : StAt w x s) : Calls Try.prog 30 #[(.agg #[.slice x.A s.rows.length x.a, .slice x.R s.sp.refs.length x.r, .slice x.L s.sp.last.length x.l, .int .i64 s.txg, .slice x.G s.gone.length x.g, .int .i64 s.keep, .slice x.D s.dead.length x.d, .bool s.same])] w (RmPost (roomSt s) w) := by
  have b0 := B8.new w 28 (.slice x.A s.rows.length x.a) (.slice x.R s.sp.refs.length x.r) (.slice x.L s.sp.last.length x.l) (.int .i64 s.txg) (.slice x.G s.gone.length x.g) (.int .i64 s.keep) (.slice x.D s.dead.length x.d) (.bool s.same)
  have B0 := bel_new (Below.refl w.heap.size w) (.cells #[.slice x.A s.rows.length x.a, .slice x.R s.sp.refs.length x.r, .slice x.L s.sp.last.length x.l, .int .i64 s.txg, .slice x.G s.gone.length x.g, .int .i64 s.keep, .slice x.D s.dead.length x.d, .bool s.same] 28)
  have hO := spec_sok x s _ hs (hA.below B0)
  by_cases hok : StOk s
  · rw [okSt_yes hok] at hO
    rw [show roomSt s = (roomS s.sp, roomS (spOf (nextU (usOf s.sp) s.gone))) from if_pos hok]
    have hC := fun W (hW : Below w.heap.size w W) => spec_l7copy x s W hs hok.sp.1 hok.sp.2.1 (hA.below hW)
    have hR1 := fun W (hW : Below w.heap.size w W) => spec_room x.R x.L x.r x.l s.sp W hs.refs hs.last (hA.sp.below hW)
    have hst := fun {k : Nat} {t : St} (hk : k < s.gone.length) (d : DropAt s k t) => drop_step hok hk d
    have h0 := drop_start hok
    have hgl := hs.gone
    have HOK := Lib.hid hok
    clear hs hA
    go_enter Try.func30, Try.ntmps30
    go_wp2_with (go_at_call 17; refine hO.mono ?_; rintro r w1 ⟨rfl, hb1⟩; refine Hid.out ?_)
    refine Lib.hid ?_
    have B1 := bel_then B0 hb1
    have b1 := b0.below hb1
    clear b0 B0 hO hb1
    obtain ⟨x0, x1, x2, x3, x4, x5, x6, x7⟩ := b1.cells
    have hCC := hC _ B1
    unfold TPost at hCC
    go_wp2_with (go_at_call 61; refine hCC.mono ?_; rintro rr w2 ⟨y, rfl, O, hb2⟩; refine Hid.out ?_)
    refine Lib.hid ?_
    have l1 : s.rows.length = 64 := HOK.out.len
    have l2 : s.sp.refs.length = 64 := HOK.out.sp.1
    have l3 : s.sp.last.length = 64 := HOK.out.sp.2.1
    obtain ⟨yA, xa, yR, xr, yL, xl, xG, xg, xD, xd⟩ := y
    obtain ⟨r, e1⟩ := own_addr (O.row 0 (by decide : 0 < 5)) (by show 0 < s.rows.length; omega)
    obtain ⟨p, e2⟩ := own_addr (O.row 1 (by decide : 1 < 5)) (by show 0 < s.sp.refs.length; omega)
    obtain ⟨q, e3⟩ := own_addr (O.row 2 (by decide : 2 < 5)) (by show 0 < s.sp.last.length; omega)
    dsimp only at *
    subst e1 e2 e3
    simp only [l1, l2, l3]
    have sw := hb2.size
    have hr : r < w2.heap.size := ((O.row 0 (by decide : 0 < 5)).lt r rfl).2
    have c3 := B8.new w2 28 (.slice (some ⟨r, 0, none⟩) 64 xa) (.slice (some ⟨p, 0, none⟩) 64 xr) (.slice (some ⟨q, 0, none⟩) 64 xl) (.int .i64 s.txg) (.slice xG s.gone.length xg) (.int .i64 s.keep) (.slice xD s.dead.length xd) (.bool s.same)
    have O3 := O.below ((Below.refl _ w2).alloc (Nat.le_refl _) (.cells #[.slice (some ⟨r, 0, none⟩) 64 xa, .slice (some ⟨p, 0, none⟩) 64 xr, .slice (some ⟨q, 0, none⟩) 64 xl, .int .i64 s.txg, .slice xG s.gone.length xg, .int .i64 s.keep, .slice xD s.dead.length xd, .bool s.same] 28))
    have B3 := bel_then hb2 ((Below.refl _ w2).alloc (Nat.le_refl _) (.cells #[.slice (some ⟨r, 0, none⟩) 64 xa, .slice (some ⟨p, 0, none⟩) 64 xr, .slice (some ⟨q, 0, none⟩) 64 xl, .int .i64 s.txg, .slice xG s.gone.length xg, .int .i64 s.keep, .slice xD s.dead.length xd, .bool s.same] 28))
    have hl3 : w2.heap.size < (w2.alloc (.cells #[.slice (some ⟨r, 0, none⟩) 64 xa, .slice (some ⟨p, 0, none⟩) 64 xr, .slice (some ⟨q, 0, none⟩) 64 xl, .int .i64 s.txg, .slice xG s.gone.length xg, .int .i64 s.keep, .slice xD s.dead.length xd, .bool s.same] 28)).heap.size := c3.lt
    clear hCC hC x0 x1 x2 x3 x4 x5 x6 x7
    go_wp2_with fail
    go_loopw [5] (fun i wr => ∃ (k : Nat) (t : St), k ≤ s.gone.length ∧ i = .int .i64 k ∧ DropAt s k t ∧ B8 wr w2.heap.size 28 (.slice (some ⟨r, 0, none⟩) 64 xa) (.slice (some ⟨p, 0, none⟩) 64 xr) (.slice (some ⟨q, 0, none⟩) 64 xl) (.int .i64 s.txg) (.slice xG s.gone.length xg) (.int .i64 s.keep) (.slice xD s.dead.length xd) (.bool s.same) ∧ Own wr w1.heap.size w2.heap.size (rows5 (⟨some ⟨r, 0, none⟩, xa, some ⟨p, 0, none⟩, xr, some ⟨q, 0, none⟩, xl, xG, xg, xD, xd⟩ : SA) t) ∧ Below w1.heap.size w1 wr) (fun i _ => s.gone.length - (intOf i).toNat)
    case atStart => exact ⟨0, s, Nat.zero_le _, rfl, h0, c3, O3, B3⟩
    case round =>
      obtain ⟨k, t, hk, rfl, D, c4, O4, B4⟩ := hrel
      clear O O3 c3 B3 h0 hb2
      have b4 := b1.below B4
      obtain ⟨y0, y1, y2, y3, y4, y5, y6, y7⟩ := c4.cells
      obtain ⟨g0, g1, g2, g3, g4, g5, g6, g7⟩ := c4.fro
      have hl4 := c4.lt
      by_cases hlt : k < s.gone.length
      · have hki : (k : Int) < (s.gone.length : Int) := by omega
        obtain ⟨n, hn, hn64, hb, D2⟩ := hst hlt D
        have hG := O4.at5.gone
        rw [D.gone] at hG
        obtain ⟨a, b, cs, d, e, hp⟩ : ∃ a b cs d e, s.gone[k] = ⟨a, b, cs, d, e⟩ := ⟨_, _, _, _, _, rfl⟩
        obtain ⟨bb, off, hxG, hlb, z0, z1, z2, z3, z4⟩ := hG.five k hlt hp
        rw [hp] at hn
        simp only at hn hxG
        subst hn hxG
        have L := spec_l7drop p q r xa xr xl xg xd n w1.heap.size w2.heap.size (some ⟨bb, off, none⟩) xD t wr.drew hn64 D.rows D.ok.1 D.ok.2.1 hb (Nat.le_of_lt hl4) O4.drew
        unfold DropPost at L
        rw [D.txg, D.gone, D.keep, D.dead, D.same] at L
        go_wp2_with fail
        go_region_with (first | (go_at_call 70; go_loud (refine L.mono ?_; rintro ee w5 ⟨rfl, O5, N5⟩; have c5 := B8.only (W := wr.drew) c4 N5 (by omega); have hl5 := c5.lt; obtain ⟨y0, y1, y2, y3, y4, y5, y6, y7⟩ := c5.cells; obtain ⟨g0, g1, g2, g3, g4, g5, g6, g7⟩ := c5.fro)))
        all_goals go_wp2_with fail
        all_goals go_roundw
        all_goals first
          | (case rel => exact ⟨k + 1, dropSt t n, by omega, by go_num, D2, ((((((((c5.put0 _).put1 _).put2 _).put3 _).put4 _).put5 _).put6 _).put7 _), ((((((((O5.setA (a := ⟨w2.heap.size, 0, none⟩) (Nat.le_refl _) _).setA (a := ⟨w2.heap.size, 1, none⟩) (Nat.le_refl _) _).setA (a := ⟨w2.heap.size, 2, none⟩) (Nat.le_refl _) _).setA (a := ⟨w2.heap.size, 3, none⟩) (Nat.le_refl _) _).setA (a := ⟨w2.heap.size, 4, none⟩) (Nat.le_refl _) _).setA (a := ⟨w2.heap.size, 5, none⟩) (Nat.le_refl _) _).setA (a := ⟨w2.heap.size, 6, none⟩) (Nat.le_refl _) _).setA (a := ⟨w2.heap.size, 7, none⟩) (Nat.le_refl _) _), (((((((((B4.drew.trans (N5.below (B := w1.heap.size) (Nat.le_refl _) (Nat.le_trans sw (Nat.le_of_lt hl4)))).setCell (p := ⟨w2.heap.size, 0, none⟩) sw _).setCell (p := ⟨w2.heap.size, 1, none⟩) sw _).setCell (p := ⟨w2.heap.size, 2, none⟩) sw _).setCell (p := ⟨w2.heap.size, 3, none⟩) sw _).setCell (p := ⟨w2.heap.size, 4, none⟩) sw _).setCell (p := ⟨w2.heap.size, 5, none⟩) sw _).setCell (p := ⟨w2.heap.size, 6, none⟩) sw _).setCell (p := ⟨w2.heap.size, 7, none⟩) sw _)⟩)
          | (case measure => show s.gone.length - ((k : Int) + 1).toNat < s.gone.length - (k : Int).toNat; omega)
      · have he : k = s.gone.length := by omega
        subst he
        have hki : ¬ ((s.gone.length : Int) < (s.gone.length : Int)) := by omega
        have hsp : roomS t.sp = roomS (spOf (nextU (usOf s.sp) s.gone)) := by rw [D.sp, List.take_length]
        have R2 := fun W hW => spec_room (some ⟨p, 0, none⟩) (some ⟨q, 0, none⟩) xr xl t.sp W (by rw [D.ok.1]; omega) (by rw [D.ok.2.1]; omega) hW
        simp only [hsp, D.ok.1, D.ok.2.1] at R2
        have hSp := fun W (hW : Below wr.heap.size wr W) => O4.at5.sp.below hW
        have L1 := hR1 wr.drew (bel_then B1 B4).drew
        simp only [l2, l3] at L1 b4
        obtain ⟨k1, hk1⟩ : ∃ k, k = roomS s.sp := ⟨_, rfl⟩
        obtain ⟨k2, hk2⟩ : ∃ k, k = roomS (spOf (nextU (usOf s.sp) s.gone)) := ⟨_, rfl⟩
        rw [← hk1] at L1
        simp only [← hk2] at R2
        have HK1 := Lib.hid hk1
        have HK2 := Lib.hid hk2
        obtain ⟨x0, x1, x2, x3, x4, x5, x6, x7⟩ := b4.cells
        have BW := bel_then B1 B4
        clear hk1 hk2 hsp hst hR1 HOK hok D l1 l2 l3 hgl
        go_wp2_with fail
        go_region_with (first
          | (go_at_call 71; refine L3.mono ?_; rintro rr wc ⟨rfl, hbc⟩)
          | (go_at_call 71; refine L1.mono ?_; rintro rr wa ⟨rfl, hba⟩; obtain ⟨y0, y1, y2, y3, y4, y5, y6, y7⟩ := (B8.below (W := wr.drew) c4 hba).cells; have L3 := R2 wa (hSp wa (bel_then (Below.refl _ _).drew hba))))
        all_goals go_wp2_with fail
        all_goals (try go_simp)
        all_goals go_ret2
        all_goals exact ⟨by show Ending.returned (.tuple #[.int .i64 k1, .int .i64 k2]) = _; rw [HK1.out, HK2.out], bel_then (bel_then BW.drew hba) hbc⟩
  · rw [okSt_no hok] at hO
    rw [show roomSt s = (-1, -1) from if_neg hok]
    clear hok hs hA
    go_enter Try.func30, Try.ntmps30
    go_wp2_with (go_at_call 17; refine hO.mono ?_; rintro r w2 ⟨rfl, hb2⟩)
    go_ret2
    exact ⟨rfl, bel_then B0 hb2⟩
end Go.Proofs.Ytmnamclndpfjnaa
