/-
  FnExactStoreNew's walk.
-/
import Derived.Test.YtmnamclndpfjnaaArgS
import Derived.Test.YtmnamclndpfjnaaStK
import Derived.Test.YtmnamclndpfjnaaStNs
import Derived.Test.YtmnamclndpfjnaaStNi
namespace Go.Proofs.Ytmnamclndpfjnaa
open Go.RowKit

theorem bulk_new (b : Bool) : SBulk (newSt b) := by
  refine ⟨?_, ?_, ?_, ?_, ?_, ?_, ?_, ?_, ?_⟩
  all_goals first
    | rfl
    | decide
    | (simp [newSt, newS]; done)
    | (intro t ht; simp [newSt, newS] at ht; done)
    | (intro t ht; simp only [newSt, List.mem_replicate] at ht; rw [ht.2]; decide)
theorem small_new (b : Bool) : SmallS (newSt b) := by
  refine ⟨?_, ?_, ?_, ?_, ?_⟩ <;> simp [newSt, newS]

set_option maxRecDepth 100000 in
set_option maxHeartbeats 16000000 in
theorem walk_esnew (b : Bool) (w : World) :
    Calls Try.prog 3 #[.bool b] w fun r w' => r = .returned (.bool true) ∧ Below w.heap.size w w' := by
  have BB := Below.refl w.heap.size w
  have hbk := bulk_new b
  have hsm := small_new b
  have hV := fun W => spec_snew b W
  have hI := fun W => impl_snew b W
  obtain ⟨s, hs⟩ : ∃ s, s = newSt b := ⟨_, rfl⟩
  simp only [← hs] at hbk hsm hV hI
  clear hs
  obtain ⟨m, hm⟩ : ∃ m, m = mk4 s := ⟨_, rfl⟩
  have nm : ¬ m < 0 := by rw [hm]; unfold mk4 mk3 mk2 mk1; omega
  have nn : (m != m) = false := by simp
  have hH := fun {w : World} {base top : Nat} {x : SA} (h : Own w base top (rowsM x s)) => held_store hsm h
  have hM := fun {w : World} {base top : Nat} {x : SA} (htop : top ≤ w.heap.size) (h : Own w base top (rows5 x s)) => mark_store hsm htop h
  unfold MkPost at hM
  simp only [← hm] at hM hH
  clear hm
  go_enter Try.func3, Try.ntmps3
  go_wp2_with (go_at_call 11; refine (hV _).mono ?_; rintro r w1 ⟨xv, rfl, fv, hb1⟩; refine Hid.out ?_)
  refine Lib.hid ?_
  have sw1 := hb1.size
  have BB := bel_then BB hb1
  clear hb1
  have bl : Below w1.heap.size w1 (w1.alloc (.cells #[.slice xv.A s.rows.length xv.a, .slice xv.R s.sp.refs.length xv.r, .slice xv.L s.sp.last.length xv.l, .int .i64 s.txg, .slice xv.G s.gone.length xv.g, .int .i64 s.keep, .slice xv.D s.dead.length xv.d, .bool s.same] 28)) := (Below.refl _ _).alloc (Nat.le_refl _) _
  have bv := B8.new w1 28 (.slice xv.A s.rows.length xv.a) (.slice xv.R s.sp.refs.length xv.r) (.slice xv.L s.sp.last.length xv.l) (.int .i64 s.txg) (.slice xv.G s.gone.length xv.g) (.int .i64 s.keep) (.slice xv.D s.dead.length xv.d) (.bool s.same)
  have saw1 : w1.heap.size < (w1.alloc (.cells #[.slice xv.A s.rows.length xv.a, .slice xv.R s.sp.refs.length xv.r, .slice xv.L s.sp.last.length xv.l, .int .i64 s.txg, .slice xv.G s.gone.length xv.g, .int .i64 s.keep, .slice xv.D s.dead.length xv.d, .bool s.same] 28)).heap.size := by rw [World.size_alloc]; exact Nat.lt_succ_self _
  have fv := fv.below bl
  have BB := bel_then BB bl
  clear bl
  go_wp2_with (go_at_call 12; refine (hI _).mono ?_; rintro r w2 ⟨xu, rfl, fu, hb2⟩; refine Hid.out ?_)
  refine Lib.hid ?_
  have sw2 := hb2.size
  have bv := bv.below hb2
  have fv := fv.below hb2
  have BB := bel_then BB hb2
  clear hb2
  have bl : Below w2.heap.size w2 (w2.alloc (.cells #[.slice xu.A s.rows.length xu.a, .slice xu.R s.sp.refs.length xu.r, .slice xu.L s.sp.last.length xu.l, .int .i64 s.txg, .slice xu.G s.gone.length xu.g, .int .i64 s.keep, .slice xu.D s.dead.length xu.d, .bool s.same] 28)) := (Below.refl _ _).alloc (Nat.le_refl _) _
  have bu := B8.new w2 28 (.slice xu.A s.rows.length xu.a) (.slice xu.R s.sp.refs.length xu.r) (.slice xu.L s.sp.last.length xu.l) (.int .i64 s.txg) (.slice xu.G s.gone.length xu.g) (.int .i64 s.keep) (.slice xu.D s.dead.length xu.d) (.bool s.same)
  have saw2 : w2.heap.size < (w2.alloc (.cells #[.slice xu.A s.rows.length xu.a, .slice xu.R s.sp.refs.length xu.r, .slice xu.L s.sp.last.length xu.l, .int .i64 s.txg, .slice xu.G s.gone.length xu.g, .int .i64 s.keep, .slice xu.D s.dead.length xu.d, .bool s.same] 28)).heap.size := by rw [World.size_alloc]; exact Nat.lt_succ_self _
  have bv := bv.below bl
  have fv := fv.below bl
  have fu := fu.below bl
  have BB := bel_then BB bl
  clear bl
  have E := eq_store (w := (w2.alloc (.cells #[.slice xu.A s.rows.length xu.a, .slice xu.R s.sp.refs.length xu.r, .slice xu.L s.sp.last.length xu.l, .int .i64 s.txg, .slice xu.G s.gone.length xu.g, .int .i64 s.keep, .slice xu.D s.dead.length xu.d, .bool s.same] 28))) hbk fu fv
  obtain ⟨x0, x1, x2, x3, x4, x5, x6, x7⟩ := bu.cells
  obtain ⟨y0, y1, y2, y3, y4, y5, y6, y7⟩ := bv.cells
  go_wp2_with (go_at_call 13; refine (E).mono ?_; rintro r w3 ⟨rfl, hb3⟩; refine Hid.out ?_)
  refine Lib.hid ?_
  have sw3 := hb3.size
  have bv := bv.below hb3
  have bu := bu.below hb3
  have fv := fv.below hb3
  have fu := fu.below hb3
  have BB := bel_then BB hb3
  clear E hb3
  clear x0 x1 x2 x3 x4 x5 x6 x7
  clear y0 y1 y2 y3 y4 y5 y6 y7
  have M := hM (by omega) fu
  clear fu
  obtain ⟨x0, x1, x2, x3, x4, x5, x6, x7⟩ := bu.cells
  go_wp2_with (go_at_call 14; refine (M).mono ?_; rintro r w4 ⟨rfl, fu, on⟩; refine Hid.out ?_)
  refine Lib.hid ?_
  have sw4 := on.size
  have BB := BB.trans (on.below (B := w.heap.size) (by omega) (by omega))
  have bv := bv.only on (by omega)
  have bu := bu.only on (by omega)
  have fv := fv.only on (by omega)
  clear M on
  clear x0 x1 x2 x3 x4 x5 x6 x7
  obtain ⟨x0, x1, x2, x3, x4, x5, x6, x7⟩ := bu.cells
  have H := hH fu
  go_wp2_with (go_at_call 15; refine (H).mono ?_; rintro r w5 ⟨rfl, hb5⟩; refine Hid.out ?_)
  refine Lib.hid ?_
  have sw5 := hb5.size
  have bv := bv.below hb5
  have bu := bu.below hb5
  have fv := fv.below hb5
  have fu := fu.below hb5
  have BB := bel_then BB hb5
  clear H hb5
  clear x0 x1 x2 x3 x4 x5 x6 x7
  go_wp2_with (go_at_call 12; refine (hI _).mono ?_; rintro r w6 ⟨xz, rfl, fz, hb6⟩; refine Hid.out ?_)
  refine Lib.hid ?_
  have sw6 := hb6.size
  have bv := bv.below hb6
  have bu := bu.below hb6
  have fv := fv.below hb6
  have fu := fu.below hb6
  have BB := bel_then BB hb6
  clear hb6
  have bl : Below w6.heap.size w6 (w6.alloc (.cells #[.slice xz.A s.rows.length xz.a, .slice xz.R s.sp.refs.length xz.r, .slice xz.L s.sp.last.length xz.l, .int .i64 s.txg, .slice xz.G s.gone.length xz.g, .int .i64 s.keep, .slice xz.D s.dead.length xz.d, .bool s.same] 28)) := (Below.refl _ _).alloc (Nat.le_refl _) _
  have bz := B8.new w6 28 (.slice xz.A s.rows.length xz.a) (.slice xz.R s.sp.refs.length xz.r) (.slice xz.L s.sp.last.length xz.l) (.int .i64 s.txg) (.slice xz.G s.gone.length xz.g) (.int .i64 s.keep) (.slice xz.D s.dead.length xz.d) (.bool s.same)
  have saw6 : w6.heap.size < (w6.alloc (.cells #[.slice xz.A s.rows.length xz.a, .slice xz.R s.sp.refs.length xz.r, .slice xz.L s.sp.last.length xz.l, .int .i64 s.txg, .slice xz.G s.gone.length xz.g, .int .i64 s.keep, .slice xz.D s.dead.length xz.d, .bool s.same] 28)).heap.size := by rw [World.size_alloc]; exact Nat.lt_succ_self _
  have bv := bv.below bl
  have bu := bu.below bl
  have fv := fv.below bl
  have fu := fu.below bl
  have fz := fz.below bl
  have BB := bel_then BB bl
  clear bl
  have E := eq_store (w := (w6.alloc (.cells #[.slice xz.A s.rows.length xz.a, .slice xz.R s.sp.refs.length xz.r, .slice xz.L s.sp.last.length xz.l, .int .i64 s.txg, .slice xz.G s.gone.length xz.g, .int .i64 s.keep, .slice xz.D s.dead.length xz.d, .bool s.same] 28))) hbk fz fv
  obtain ⟨x0, x1, x2, x3, x4, x5, x6, x7⟩ := bz.cells
  obtain ⟨y0, y1, y2, y3, y4, y5, y6, y7⟩ := bv.cells
  go_wp2_with (go_at_call 13; refine (E).mono ?_; rintro r w7 ⟨rfl, hb7⟩; refine Hid.out ?_)
  refine Lib.hid ?_
  have sw7 := hb7.size
  have bv := bv.below hb7
  have bu := bu.below hb7
  have bz := bz.below hb7
  have fv := fv.below hb7
  have fu := fu.below hb7
  have fz := fz.below hb7
  have BB := bel_then BB hb7
  clear E hb7
  clear x0 x1 x2 x3 x4 x5 x6 x7
  clear y0 y1 y2 y3 y4 y5 y6 y7
  obtain ⟨x0, x1, x2, x3, x4, x5, x6, x7⟩ := bu.cells
  have H := hH fu
  go_wp2_with (go_at_call 15; refine H.mono ?_; rintro r w8 ⟨rfl, hb8⟩)
  go_ret
  exact ⟨rfl, bel_then BB hb8⟩
end Go.Proofs.Ytmnamclndpfjnaa
