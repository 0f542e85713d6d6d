/-
  A promise's own comparison of stores, where nothing has been given up.
-/
import Derived.Test.YtmnamclndpfjnaaStNa
namespace Go.Proofs.Ytmnamclndpfjnaa
open Go.RowKit

set_option maxHeartbeats 1000000 in
theorem pf_ints (A B : Option Addr) (ca cb : Nat) (xs : List Int) (w : World) (hn : xs.length ≤ 1048576) (hA : Lies w A (intCells xs)) (hB : Lies w B (intCells xs)) :
    Calls Try.prog 106 #[.slice A xs.length ca, .slice B xs.length cb] w fun e w' => e = .returned (.bool true) ∧ Below w.heap.size w w' := by
  have hq0 : ((xs.length : Int) != (xs.length : Int)) = false := by simp
  go_enter Try.func106, Try.ntmps106
  go_wp2
  go_loopw [5] (fun i wr => ∃ k : Nat, k ≤ xs.length ∧ i = .int .i64 k ∧ Below w.heap.size w wr) (fun i _ => xs.length - (intOf i).toNat)
  case atStart => exact ⟨0, Nat.zero_le _, rfl, Below.refl _ _⟩
  case round =>
    obtain ⟨k, hk, rfl, hb⟩ := hrel
    by_cases hlt : k < xs.length
    · obtain ⟨b, off, rfl, hlb, hck⟩ := (hA.below hb).int k hlt
      obtain ⟨b2, off2, rfl, hlb2, hck2⟩ := (hB.below hb).int k hlt
      obtain ⟨x, hx⟩ : ∃ x, x = xs[k] := ⟨_, rfl⟩
      rw [← hx] at hck hck2
      have hq : (x != x) = false := by simp
      have hlt' : (k : Int) < (xs.length : Int) := by omega
      clear hx
      go_wp2_with fail
      go_quiet (fail)
      go_wp2
      go_roundw
      case rel => exact ⟨k + 1, by omega, by go_num, below_drewN hb _⟩
      case measure => simp [intOf]; omega
    · have hke : k = xs.length := by omega
      subst hke
      go_wp2
      go_ret
      exact ⟨rfl, hb⟩

set_option maxHeartbeats 1000000 in
theorem pf_space (A B A2 B2 : Option Addr) (c e c2 e2 : Nat) (s : Sp) (w : World) (hn : s.refs.length ≤ 1048576) (hm : s.last.length ≤ 1048576) (h1 : SpAt w A B s) (h2 : SpAt w A2 B2 s) :
    Calls Try.prog 76 #[.agg #[.slice A s.refs.length c, .slice B s.last.length e], .agg #[.slice A2 s.refs.length c2, .slice B2 s.last.length e2]] w fun r w' => r = .returned (.bool true) ∧ Below w.heap.size w w' := by
  have hS := fun W hW => pf_ints A A2 c c2 s.refs W hn (h1.1.below (w' := W) hW) (h2.1.below hW)
  have hT := fun W hW => pf_ints B B2 e e2 s.last W hm (h1.2.below (w' := W) hW) (h2.2.below hW)
  obtain ⟨n, hn'⟩ : ∃ n, n = s.refs.length := ⟨_, rfl⟩
  obtain ⟨m, hm'⟩ : ∃ m, m = s.last.length := ⟨_, rfl⟩
  rw [← hn'] at hS ⊢
  rw [← hm'] at hT ⊢
  clear hn hm hn' hm' h1 h2
  go_enter Try.func76, Try.ntmps76
  go_wp2_with (first
    | (go_at_call 106; ((with_reducible refine (hS _ (bel_new (bel_new (Below.refl _ _) _) _)).mono ?_); rintro r w2 ⟨rfl, hb2⟩; have B2 := bel_then (bel_new (bel_new (Below.refl _ _) _) _) hb2; obtain ⟨hc, hf⟩ := bcell hb2))
    | (go_at_call 106; refine (hT _ B2).mono ?_; rintro r w3 ⟨rfl, hb3⟩; have B3 := bel_then B2 hb3))
  go_ret
  exact ⟨rfl, B3⟩

namespace Sx
set_option maxHeartbeats 1000000 in
theorem pf_strs (A B : Option Addr) (ca cb : Nat) (ss : List ByteArray) (w : World) (hn : ss.length ≤ 1048576) (hA : Lies w A (strCells ss)) (hB : Lies w B (strCells ss)) :
    Calls Try.prog 75 #[.slice A ss.length ca, .slice B ss.length cb] w fun e w' => e = .returned (.bool true) ∧ Below w.heap.size w w' := by
  have hq0 : ((ss.length : Int) != (ss.length : Int)) = false := by simp
  go_enter Try.func75, Try.ntmps75
  go_wp2
  go_loopw [5] (fun i wr => ∃ k : Nat, k ≤ ss.length ∧ i = .int .i64 k ∧ Below w.heap.size w wr) (fun i _ => ss.length - (intOf i).toNat)
  case atStart => exact ⟨0, Nat.zero_le _, rfl, Below.refl _ _⟩
  case round =>
    obtain ⟨k, hk, rfl, hb⟩ := hrel
    by_cases hlt : k < ss.length
    · obtain ⟨b, off, rfl, hlb, hck⟩ := (hA.below hb).str k hlt
      obtain ⟨b2, off2, rfl, hlb2, hck2⟩ := (hB.below hb).str k hlt
      obtain ⟨x, hx⟩ : ∃ x, x = ss[k] := ⟨_, rfl⟩
      rw [← hx] at hck hck2
      have hq : (!x.toList == x.toList) = false := by simp
      have hlt' : (k : Int) < (ss.length : Int) := by omega
      clear hx
      go_wp2_with fail
      go_quiet (fail)
      go_wp2
      go_roundw
      case rel => exact ⟨k + 1, by omega, by go_num, below_drewN hb _⟩
      case measure => simp [intOf]; omega
    · have hke : k = ss.length := by omega
      subst hke
      go_wp2
      go_ret
      exact ⟨rfl, hb⟩
end Sx
theorem pf_noptrs (A B : Option Addr) (ca cb : Nat) (w : World) : Calls Try.prog 77 #[.slice A 0 ca, .slice B 0 cb] w fun e w' => e = .returned (.bool true) ∧ Below w.heap.size w w' := by
  go_enter Try.func77, Try.ntmps77
  go_wp2
  go_loop [5] (fun i => i = .int .i64 0) (fun _ => 0)
  case atStart => rfl
  case round =>
    subst hrel
    go_wp2
    go_ret
    exact ⟨rfl, Below.refl _ _⟩

set_option maxRecDepth 100000 in
set_option maxHeartbeats 4000000 in
theorem pf_store (x y : SA) (s : St) (w : World) (h1 : s.rows.length ≤ 1048576) (h2 : s.sp.refs.length ≤ 1048576) (h3 : s.sp.last.length ≤ 1048576) (hg : s.gone.length = 0) (hd : s.dead.length = 0) (hx : StAt w x s) (hy : StAt w y s) :
    Calls Try.prog 33 #[(.agg #[.slice x.A s.rows.length x.a, .slice x.R s.sp.refs.length x.r, .slice x.L s.sp.last.length x.l, .int .i64 s.txg, .slice x.G s.gone.length x.g, .int .i64 s.keep, .slice x.D s.dead.length x.d, .bool s.same]), (.agg #[.slice y.A s.rows.length y.a, .slice y.R s.sp.refs.length y.r, .slice y.L s.sp.last.length y.l, .int .i64 s.txg, .slice y.G s.gone.length y.g, .int .i64 s.keep, .slice y.D s.dead.length y.d, .bool s.same])] w fun e w' => e = .returned (.bool true) ∧ Below w.heap.size w w' := by
  rw [hg, hd]
  have a0 := (B8.new w 28 (.slice x.A s.rows.length x.a) (.slice x.R s.sp.refs.length x.r) (.slice x.L s.sp.last.length x.l) (.int .i64 s.txg) (.slice x.G 0 x.g) (.int .i64 s.keep) (.slice x.D 0 x.d) (.bool s.same)).alloc (.cells #[.slice y.A s.rows.length y.a, .slice y.R s.sp.refs.length y.r, .slice y.L s.sp.last.length y.l, .int .i64 s.txg, .slice y.G 0 y.g, .int .i64 s.keep, .slice y.D 0 y.d, .bool s.same] 28)
  have b0 := B8.new (w.alloc (.cells #[.slice x.A s.rows.length x.a, .slice x.R s.sp.refs.length x.r, .slice x.L s.sp.last.length x.l, .int .i64 s.txg, .slice x.G 0 x.g, .int .i64 s.keep, .slice x.D 0 x.d, .bool s.same] 28)) 28 (.slice y.A s.rows.length y.a) (.slice y.R s.sp.refs.length y.r) (.slice y.L s.sp.last.length y.l) (.int .i64 s.txg) (.slice y.G 0 y.g) (.int .i64 s.keep) (.slice y.D 0 y.d) (.bool s.same)
  rw [World.size_alloc] at b0
  have BB := bel_new (bel_new (Below.refl w.heap.size w) (.cells #[.slice x.A s.rows.length x.a, .slice x.R s.sp.refs.length x.r, .slice x.L s.sp.last.length x.l, .int .i64 s.txg, .slice x.G 0 x.g, .int .i64 s.keep, .slice x.D 0 x.d, .bool s.same] 28)) (.cells #[.slice y.A s.rows.length y.a, .slice y.R s.sp.refs.length y.r, .slice y.L s.sp.last.length y.l, .int .i64 s.txg, .slice y.G 0 y.g, .int .i64 s.keep, .slice y.D 0 y.d, .bool s.same] 28)
  have hS := fun W (hW : Below w.heap.size w W) => Sx.pf_strs x.A y.A x.a y.a s.rows W h1 (hx.rows.below hW) (hy.rows.below hW)
  have hT := fun W (hW : Below w.heap.size w W) => pf_space x.R x.L y.R y.L x.r x.l y.r y.l s.sp W h2 h3 (hx.sp.below hW) (hy.sp.below hW)
  have hP := fun A B c e W => pf_noptrs A B c e W
  have qb : (s.same == s.same) = true := by simp
  clear h1 h2 h3 hx hy
  go_enter Try.func33, Try.ntmps33
  go_upto_region 1 with fail
  obtain ⟨W0, hW0⟩ : ∃ W, W = (w.alloc (.cells #[.slice x.A s.rows.length x.a, .slice x.R s.sp.refs.length x.r, .slice x.L s.sp.last.length x.l, .int .i64 s.txg, .slice x.G 0 x.g, .int .i64 s.keep, .slice x.D 0 x.d, .bool s.same] 28)).alloc (.cells #[.slice y.A s.rows.length y.a, .slice y.R s.sp.refs.length y.r, .slice y.L s.sp.last.length y.l, .int .i64 s.txg, .slice y.G 0 y.g, .int .i64 s.keep, .slice y.D 0 y.d, .bool s.same] 28) := ⟨_, rfl⟩
  rw [← hW0] at a0 b0 BB ⊢
  clear hW0
  obtain ⟨x0, x1, x2, x3, x4, x5, x6, x7⟩ := a0.cells
  obtain ⟨y0, y1, y2, y3, y4, y5, y6, y7⟩ := b0.cells
  go_wp2_with (go_at_call 75; refine (hS W0 BB).mono ?_; rintro r w1 ⟨rfl, hb1⟩; refine Hid.out ?_)
  refine Lib.hid ?_
  clear hS x0 x1 x2 x3 x4 x5 x6 x7 y0 y1 y2 y3 y4 y5 y6 y7
  have a1 := a0.below hb1
  have b1 := b0.below hb1
  have BB := bel_then BB hb1
  obtain ⟨x0, x1, x2, x3, x4, x5, x6, x7⟩ := a1.cells
  obtain ⟨y0, y1, y2, y3, y4, y5, y6, y7⟩ := b1.cells
  clear a0 b0 hb1
  go_wp2_with (go_at_call 76; refine (hT w1 BB).mono ?_; rintro r w2 ⟨rfl, hb2⟩; refine Hid.out ?_)
  refine Lib.hid ?_
  clear hT x0 x1 x2 x3 x4 x5 x6 x7 y0 y1 y2 y3 y4 y5 y6 y7
  have a2 := a1.below hb2
  have b2 := b1.below hb2
  have BB := bel_then BB hb2
  obtain ⟨x0, x1, x2, x3, x4, x5, x6, x7⟩ := a2.cells
  obtain ⟨y0, y1, y2, y3, y4, y5, y6, y7⟩ := b2.cells
  clear a1 b1 hb2
  go_wp2_with (go_at_call 77; refine (hP x.G y.G x.g y.g w2).mono ?_; rintro r w3 ⟨rfl, hb3⟩; refine Hid.out ?_)
  refine Lib.hid ?_
  clear x0 x1 x2 x3 x4 x5 x6 x7 y0 y1 y2 y3 y4 y5 y6 y7
  have a3 := a2.below hb3
  have b3 := b2.below hb3
  have BB := bel_then BB hb3
  obtain ⟨x0, x1, x2, x3, x4, x5, x6, x7⟩ := a3.cells
  obtain ⟨y0, y1, y2, y3, y4, y5, y6, y7⟩ := b3.cells
  clear a2 b2 hb3
  go_wp2_with (go_at_call 77; refine (hP x.D y.D x.d y.d w3).mono ?_; rintro r w4 ⟨rfl, hb4⟩; refine Hid.out ?_)
  refine Lib.hid ?_
  clear x0 x1 x2 x3 x4 x5 x6 x7 y0 y1 y2 y3 y4 y5 y6 y7
  have a4 := a3.below hb4
  have b4 := b3.below hb4
  have BB := bel_then BB hb4
  obtain ⟨x0, x1, x2, x3, x4, x5, x6, x7⟩ := a4.cells
  obtain ⟨y0, y1, y2, y3, y4, y5, y6, y7⟩ := b4.cells
  clear a3 b3 hb4 hP
  go_wp2_with fail
  go_ret
  exact ⟨rfl, BB⟩
end Go.Proofs.Ytmnamclndpfjnaa
