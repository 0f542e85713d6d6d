/-
  How many rows are free, now and in the next group, as the program counts them.
-/
import Derived.Test.YtmnamclndpfjnaaNxi
import Derived.Test.YtmnamclndpfjnaaSOk
namespace Go.Proofs.Ytmnamclndpfjnaa
open Go.RowKit

def roomSt (s : St) : Int × Int := if StOk s then (roomS s.sp, roomS (spOf (nextU (usOf s.sp) s.gone))) else (-1, -1)
def RmPost (q : Int × Int) (w : World) (r : Ending) (w' : World) : Prop := r = .returned (.tuple #[.int .i64 q.1, .int .i64 q.2]) ∧ Below w.heap.size w w'
set_option maxRecDepth 100000 in
set_option maxHeartbeats 4000000 in
theorem impl_sroom (x : SA) (s : St) (w : World) (hs : SBulk s) (hA : StAt w x s) : Calls Try.prog 31 #[(.agg #[.slice x.A s.rows.length x.a, .slice x.R s.sp.refs.length x.r, .slice x.L s.sp.last.length x.l, .int .i64 s.txg, .slice x.G s.gone.length x.g, .int .i64 s.keep, .slice x.D s.dead.length x.d, .bool s.same])] w (RmPost (roomSt s) w) := by
  have b0 := B8.new w 28 (.slice x.A s.rows.length x.a) (.slice x.R s.sp.refs.length x.r) (.slice x.L s.sp.last.length x.l) (.int .i64 s.txg) (.slice x.G s.gone.length x.g) (.int .i64 s.keep) (.slice x.D s.dead.length x.d) (.bool s.same)
  have B0 := bel_new (Below.refl w.heap.size w) (.cells #[.slice x.A s.rows.length x.a, .slice x.R s.sp.refs.length x.r, .slice x.L s.sp.last.length x.l, .int .i64 s.txg, .slice x.G s.gone.length x.g, .int .i64 s.keep, .slice x.D s.dead.length x.d, .bool s.same] 28)
  have hO := impl_mok x s _ hs (hA.below B0)
  by_cases hok : StOk s
  · rw [okSt_yes hok] at hO
    rw [show roomSt s = (roomS s.sp, roomS (spOf (nextU (usOf s.sp) s.gone))) from if_pos hok]
    have hN := fun W (hW : Below w.heap.size w W) => impl_snext x s W hok hs.gone (hA.below hW)
    have hR1 := fun W (hW : Below w.heap.size w W) => impl_room x.R x.L x.r x.l s.sp W hs.refs hs.last (hA.sp.below hW)
    have hl := next_ok hok
    have hR2 := fun A B c e W => impl_room A B c e (spOf (nextU (usOf s.sp) s.gone)) W (by rw [hl.1]; omega) (by rw [hl.2.1]; omega)
    obtain ⟨S2, hS2⟩ : ∃ S, S = spOf (nextU (usOf s.sp) s.gone) := ⟨_, rfl⟩
    simp only [← hS2] at hN hR2 ⊢
    obtain ⟨k1, hk1⟩ : ∃ k, k = roomS s.sp := ⟨_, rfl⟩
    obtain ⟨k2, hk2⟩ : ∃ k, k = roomS S2 := ⟨_, rfl⟩
    simp only [← hk1] at hR1 ⊢
    simp only [← hk2] at hR2 ⊢
    clear hk1 hk2 hS2 hl hs hA hok
    go_enter Try.func31, Try.ntmps31
    go_wp2_with (go_at_call 55; refine hO.mono ?_; rintro r w1 ⟨rfl, hb1⟩; refine Hid.out ?_)
    refine Lib.hid ?_
    have BB := bel_then B0 hb1
    have b1 := b0.below hb1
    clear b0 B0 hO hb1
    obtain ⟨x0, x1, x2, x3, x4, x5, x6, x7⟩ := b1.cells
    have L1 := hR1 w1.drew BB.drew
    go_upto_region 3 with fail
    go_cut [2, 3] (fun s0 s1 wx => s0 = .int .i64 k1 ∧ s1 = .int .i64 k2 ∧ Below w1.heap.size w1 wx)
    case first =>
      first
        | go_region_with (first
          | (go_at_call 72; refine L3.mono ?_; rintro r wc ⟨rfl, hbc⟩)
          | (go_at_call 72; refine L1.mono ?_; rintro r wa ⟨rfl, hba⟩; obtain ⟨y0, y1, y2, y3, y4, y5, y6, y7⟩ := (B8.below (W := w1.drew) b1 hba).cells; have L2 := hN wa (bel_then BB.drew hba))
          | (go_at_call 69; refine L2.mono ?_; rintro r wb ⟨A2, c2, B2, e2, rfl, ho, hbb⟩; have L3 := hR2 A2 B2 c2 e2 wb ho.lies))
        | fail "region"
      all_goals go_wp2_with fail
      all_goals (try go_simp)
      all_goals go_meet
      all_goals exact ⟨rfl, rfl, bel_then (bel_then (bel_then (Below.refl _ _).drew hba) hbb) hbc⟩
    case rest =>
      obtain ⟨rfl, rfl, hb2⟩ := hcut
      clear x0 x1 x2 x3 x4 x5 x6 x7 b1 L1 hN hR1 hR2
      go_wp2_with fail
      go_ret2
      exact ⟨rfl, bel_then BB hb2⟩
  · rw [okSt_no hok] at hO
    rw [show roomSt s = (-1, -1) from if_neg hok]
    clear hok hs hA
    go_enter Try.func31, Try.ntmps31
    go_wp2_with (go_at_call 55; refine hO.mono ?_; rintro r w2 ⟨rfl, hb2⟩)
    go_ret2
    exact ⟨rfl, bel_then B0 hb2⟩
end Go.Proofs.Ytmnamclndpfjnaa
