/-
  FnStoreNew's walk.
-/
import Derived.Test.YtmnamclndpfjnaaPfS
import Derived.Test.YtmnamclndpfjnaaDraw
import Derived.Test.YtmnamclndpfjnaaStNs
import Derived.Test.YtmnamclndpfjnaaStNi
import Derived.Test.YtmnamclndpfjnaaRmi
namespace Go.Proofs.Ytmnamclndpfjnaa
open Go.RowKit

def DrBPost (w : World) (e : Ending) (w' : World) : Prop := ∃ b : Bool, e = .returned (.bool b) ∧ Below w.heap.size w w'
set_option maxHeartbeats 2000000 in
theorem draw_new (A : Option Addr) (n cap : Nat) (w : World) (hn : n ≤ cap) (hA : BytesAt w A n) : Calls Try.prog 32 #[.slice A n cap] w (DrBPost w) := by
  have hO := open_rd A n cap w hn hA
  go_enter Try.func32, Try.ntmps32
  go_wp2_with (first
    | (go_at_call 73; refine hO.mono ?_; rintro r w1 ⟨A', m', cap', B, rfl, hr⟩; have h1 := pick_rd w w1 B A' m' cap' 0 2 hr (by omega) (by omega) (by omega))
    | (go_at_call 74; refine h1.mono ?_; rintro r w2 ⟨x, x0, x1, rfl, h2, g2⟩))
  go_ret
  exact ⟨_, rfl, h2.bel⟩
theorem newS_okS : SpOk newS := ⟨by simp [newS], by simp [newS], fun i hi => by
  rw [← newS_of, usOf_spOf, zeroU_at]
  exact .inl ⟨rfl, rfl⟩⟩
theorem newS_roomS : roomS newS = 56 := by
  unfold roomS
  rw [if_pos newS_okS, ← newS_of, usOf_spOf, cnt_zero]
  rfl
theorem newSt_ok (b : Bool) : StOk (newSt b) := by
  refine ⟨by simp [newSt], newS_okS, ⟨by show (1 : Int) ≤ 1; omega, by show (1 : Int) ≤ 900; omega⟩, ⟨by show (0 : Int) ≤ 0; omega, by show (0 : Int) ≤ 1 - 1; omega⟩, ?_, fun j hj => absurd hj (Nat.not_lt_zero j), fun j hj => absurd hj (Nat.not_lt_zero j)⟩
  intro i hi
  have e1 : (newSt b).rows.getD i b0 = b0 := by
    show (List.replicate 64 b0).getD i b0 = b0
    rw [List.getD_eq_getElem?_getD, List.getElem?_replicate]
    split <;> rfl
  have e2 : (newSt b).sp.refs.getD i 0 = 0 := by
    show (List.replicate 64 (0 : Int)).getD i 0 = 0
    rw [List.getD_eq_getElem?_getD, List.getElem?_replicate]
    split <;> rfl
  have e3 : (newSt b).sp.last.getD i 0 = 0 := by
    show (List.replicate 64 (0 : Int)).getD i 0 = 0
    rw [List.getD_eq_getElem?_getD, List.getElem?_replicate]
    split <;> rfl
  rw [e1, e2, e3]
  refine ⟨?_, ?_, ?_⟩
  · exact Nat.zero_le _
  · exact ⟨fun _ => rfl, fun _ => rfl⟩
  · show (0 : Int) ≤ 1
    omega
theorem newSt_room (b : Bool) : roomSt (newSt b) = (56, 56) := by
  unfold roomSt
  rw [if_pos (newSt_ok b)]
  show (roomS newS, roomS (spOf (nextU (usOf newS) []))) = (56, 56)
  rw [nextU_nil, spOf_usOf (by simp [newS]), newS_roomS]
theorem newSt_bulk (b : Bool) : SBulk (newSt b) := by
  refine ⟨?_, ?_, ?_, ?_, ?_, ?_, ?_, ?_, ?_⟩
  all_goals first
    | rfl
    | decide
    | (simp [newSt, newS]; done)
    | (intro t ht; simp [newSt, newS] at ht; done)
    | (intro t ht; simp only [newSt, List.mem_replicate] at ht; rw [ht.2]; decide)

set_option maxRecDepth 100000 in
set_option maxHeartbeats 8000000 in
theorem walk_psnew (A : Option Addr) (n cap : Nat) (w : World) (hn : n ≤ cap) (hA : BytesAt w A n) : Calls Try.prog 10 #[.slice A n cap] w fun r w' => r = .returned (.bool true) ∧ Below w.heap.size w w' := by
  have hD := draw_new A n cap w hn hA
  by_cases hbig : (1048576 : Int) < (n : Int)
  · go_enter Try.func10, Try.ntmps10
    go_wp2_with fail
    go_ret
    exact ⟨rfl, Below.refl _ _⟩
  clear hA hn
  go_enter Try.func10, Try.ntmps10
  go_wp2_with (go_at_call 32; refine hD.mono ?_; rintro r w1 ⟨b, rfl, hb1⟩; refine Hid.out ?_)
  refine Lib.hid ?_
  clear hD hbig
  have hbk := newSt_bulk b
  have hI := impl_snew b w1
  have hS := fun W => spec_snew b W
  have hok := okSt_yes (newSt_ok b)
  have hrm := newSt_room b
  have hg : (newSt b).gone.length = 0 := rfl
  have hd : (newSt b).dead.length = 0 := rfl
  have ht : (newSt b).txg = 1 := rfl
  have hb : (newSt b).same = b := rfl
  obtain ⟨s, hs⟩ : ∃ s, s = newSt b := ⟨_, rfl⟩
  rw [← hs] at hbk hI hok hrm hg hd ht hb
  simp only [← hs] at hS
  have HG := Lib.hid hg
  have HD := Lib.hid hd
  have e1 : (s.txg == 1) = true := by rw [ht]; rfl
  have e2 : (s.same == b) = true := by rw [hb]; simp
  clear hs hg hd ht hb
  unfold TPost at hI hS
  go_wp2_with (go_at_call 12; refine hI.mono ?_; rintro r w2 ⟨xv, rfl, fv, hb2⟩; refine Hid.out ?_)
  refine Lib.hid ?_
  have b1 := B8.new w2 28 (.slice xv.A s.rows.length xv.a) (.slice xv.R s.sp.refs.length xv.r) (.slice xv.L s.sp.last.length xv.l) (.int .i64 s.txg) (.slice xv.G s.gone.length xv.g) (.int .i64 s.keep) (.slice xv.D s.dead.length xv.d) (.bool s.same)
  have BB := bel_new (bel_then hb1 hb2) (.cells #[.slice xv.A s.rows.length xv.a, .slice xv.R s.sp.refs.length xv.r, .slice xv.L s.sp.last.length xv.l, .int .i64 s.txg, .slice xv.G s.gone.length xv.g, .int .i64 s.keep, .slice xv.D s.dead.length xv.d, .bool s.same] 28)
  have fv := fv.alloc (.cells #[.slice xv.A s.rows.length xv.a, .slice xv.R s.sp.refs.length xv.r, .slice xv.L s.sp.last.length xv.l, .int .i64 s.txg, .slice xv.G s.gone.length xv.g, .int .i64 s.keep, .slice xv.D s.dead.length xv.d, .bool s.same] 28)
  clear hI hb1 hb2
  go_wp2_with (go_at_call 11; refine (hS _).mono ?_; rintro r w3 ⟨xu, rfl, fu, hb3⟩; refine Hid.out ?_)
  refine Lib.hid ?_
  have b1 := (b1.below hb3).alloc (.cells #[.slice xu.A s.rows.length xu.a, .slice xu.R s.sp.refs.length xu.r, .slice xu.L s.sp.last.length xu.l, .int .i64 s.txg, .slice xu.G s.gone.length xu.g, .int .i64 s.keep, .slice xu.D s.dead.length xu.d, .bool s.same] 28)
  have b2 := B8.new w3 28 (.slice xu.A s.rows.length xu.a) (.slice xu.R s.sp.refs.length xu.r) (.slice xu.L s.sp.last.length xu.l) (.int .i64 s.txg) (.slice xu.G s.gone.length xu.g) (.int .i64 s.keep) (.slice xu.D s.dead.length xu.d) (.bool s.same)
  have BB := bel_new (bel_then BB hb3) (.cells #[.slice xu.A s.rows.length xu.a, .slice xu.R s.sp.refs.length xu.r, .slice xu.L s.sp.last.length xu.l, .int .i64 s.txg, .slice xu.G s.gone.length xu.g, .int .i64 s.keep, .slice xu.D s.dead.length xu.d, .bool s.same] 28)
  have fv := (fv.below hb3).alloc (.cells #[.slice xu.A s.rows.length xu.a, .slice xu.R s.sp.refs.length xu.r, .slice xu.L s.sp.last.length xu.l, .int .i64 s.txg, .slice xu.G s.gone.length xu.g, .int .i64 s.keep, .slice xu.D s.dead.length xu.d, .bool s.same] 28)
  have fu := fu.alloc (.cells #[.slice xu.A s.rows.length xu.a, .slice xu.R s.sp.refs.length xu.r, .slice xu.L s.sp.last.length xu.l, .int .i64 s.txg, .slice xu.G s.gone.length xu.g, .int .i64 s.keep, .slice xu.D s.dead.length xu.d, .bool s.same] 28)
  have hl : w2.heap.size < w3.heap.size := by have := hb3.size; rw [World.size_alloc] at this; omega
  clear hS hb3
  have L := pf_store xv xu s _ hbk.rows hbk.refs hbk.last HG.out HD.out fv.at5 fu.at5
  obtain ⟨x0, x1, x2, x3, x4, x5, x6, x7⟩ := b1.cells
  obtain ⟨y0, y1, y2, y3, y4, y5, y6, y7⟩ := b2.cells
  go_wp2_with (go_at_call 33; refine L.mono ?_; rintro r w4 ⟨rfl, hb4⟩; refine Hid.out ?_)
  refine Lib.hid ?_
  clear x0 x1 x2 x3 x4 x5 x6 x7 y0 y1 y2 y3 y4 y5 y6 y7 L
  have b1 := b1.below hb4
  have BB := bel_then BB hb4
  have fv := fv.below hb4
  clear hb4 b2 fu
  have L := impl_sroom xv s w4 hbk fv.at5
  rw [hrm] at L
  unfold RmPost at L
  obtain ⟨x0, x1, x2, x3, x4, x5, x6, x7⟩ := b1.cells
  go_wp2_with (go_at_call 31; refine L.mono ?_; rintro r w5 ⟨rfl, hb5⟩; refine Hid.out ?_)
  refine Lib.hid ?_
  clear x0 x1 x2 x3 x4 x5 x6 x7 L
  have b1 := b1.below hb5
  have BB := bel_then BB hb5
  have fv := fv.below hb5
  clear hb5
  have L := impl_sok xv s w5 hbk fv.at5
  rw [hok] at L
  obtain ⟨x0, x1, x2, x3, x4, x5, x6, x7⟩ := b1.cells
  go_wp2_with (go_at_call 19; refine L.mono ?_; rintro r w6 ⟨rfl, hb6⟩; refine Hid.out ?_)
  refine Lib.hid ?_
  clear x0 x1 x2 x3 x4 x5 x6 x7 L
  have b1 := b1.below hb6
  have BB := bel_then BB hb6
  clear hb6
  obtain ⟨x0, x1, x2, x3, x4, x5, x6, x7⟩ := b1.cells
  go_wp2_with fail
  go_ret
  exact ⟨rfl, BB⟩
end Go.Proofs.Ytmnamclndpfjnaa
