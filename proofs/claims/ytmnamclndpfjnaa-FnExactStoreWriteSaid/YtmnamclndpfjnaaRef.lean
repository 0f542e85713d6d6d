/-
  Whether a store is valid, as the program asks it.
-/
import Derived.Test.YtmnamclndpfjnaaTak
import Derived.Test.YtmnamclndpfjnaaCln
import Derived.Test.YtmnamclndpfjnaaImA
namespace Go.Proofs.Ytmnamclndpfjnaa
open Go.RowKit

theorem own_pos {w : World} {base n c : Nat} {A : Option Addr} {t : TypeId} {sz : Nat} {xs : List Value} (h : w.ownsRow base t sz (.slice A n c) n xs) (hn : 0 < n) : ∃ g, A = some ⟨g, 0, none⟩ ∧ base ≤ g ∧ g < w.heap.size := by
  obtain ⟨g, rfl⟩ := own_addr h hn
  exact ⟨g, rfl, (h.lt g rfl).1, (h.lt g rfl).2⟩
def refsB (s : St) : Bool := takeB s.sp.refs [] s.gone (s.txg - 1) && takeB s.sp.refs s.gone s.dead s.keep

theorem parg_lt {W : World} {A : Option Addr} {ps : List P5} {g : Nat} (h : PArg W A ps) (hg : W.heap.size ≤ g) (h0 : 0 < ps.length) : ∀ b o, A = some ⟨b, o, none⟩ → b ≠ g := fun b o e => by
  obtain ⟨b', o', e', hlt, _⟩ := h h0
  rw [e] at e'
  injection e' with e'
  injection e' with e1
  omega
set_option maxRecDepth 100000 in
set_option maxHeartbeats 4000000 in
theorem take_any (base g c cc : Nat) (A : Option Addr) (R : List Int) (pre L : List P5) (top : Int) (xs : List Int) (w w0 : World) (hR : ∀ i, i < 64 → 0 ≤ R.getD i 0 ∧ R.getD i 0 ≤ 900) (hS : SubR R pre xs) (hL : L.length ≤ 1048576)
    (ho : w.ownsRow base 3 1 (.slice (some ⟨g, 0, none⟩) 64 c) 64 (intCells xs)) (hA : PArg w A L) (h0 : PArg w0 A L) (hg : w0.heap.size ≤ g) :
    Calls Try.prog 108 #[.slice (some ⟨g, 0, none⟩) 64 c, .slice A L.length cc, .int .i64 top] w (TakePost base g c R pre L top w) := by
  by_cases hl : 0 < L.length
  · exact impl_takeaway base g c cc A R pre L top xs w hR hS hL ho hA (parg_lt h0 hg hl)
  · have hn : L = [] := List.length_eq_zero_iff.1 (by omega)
    subst hn
    have ht : takeB R pre [] top = true := takeB_yes (fun j hj => absurd hj (by simp))
    clear hL hA h0 hl
    go_enter Try.func108, Try.ntmps108
    go_wp2_with fail
    go_loop [11] (fun i => i = .int .i64 0) (fun _ => 0)
    case atStart => rfl
    case round =>
      subst hrel
      go_wp2_with fail
      go_ret
      exact ⟨by rw [ht]; rfl, World.grownBy.refl w _, fun _ => ⟨xs, by simpa using hS, ho⟩⟩

set_option maxRecDepth 100000 in
set_option maxHeartbeats 4000000 in
theorem impl_refs (x : SA) (s : St) (w : World) (hl : s.sp.refs.length = 64) (hR : ∀ i, i < 64 → 0 ≤ s.sp.refs.getD i 0 ∧ s.sp.refs.getD i 0 ≤ 900) (ht : 1 ≤ s.txg ∧ s.txg ≤ 900) (hg : s.gone.length ≤ 1048576) (hd : s.dead.length ≤ 1048576) (hA : StAt w x s) :
    Calls Try.prog 88 #[(.agg #[.slice x.A s.rows.length x.a, .slice x.R s.sp.refs.length x.r, .slice x.L s.sp.last.length x.l, .int .i64 s.txg, .slice x.G s.gone.length x.g, .int .i64 s.keep, .slice x.D s.dead.length x.d, .bool s.same])] w fun r w' => r = .returned (.bool (refsB s)) ∧ Below w.heap.size w w' := by
  have b0 := B8.new w 28 (.slice x.A s.rows.length x.a) (.slice x.R s.sp.refs.length x.r) (.slice x.L s.sp.last.length x.l) (.int .i64 s.txg) (.slice x.G s.gone.length x.g) (.int .i64 s.keep) (.slice x.D s.dead.length x.d) (.bool s.same)
  have B0 := bel_new (Below.refl w.heap.size w) (.cells #[.slice x.A s.rows.length x.a, .slice x.R s.sp.refs.length x.r, .slice x.L s.sp.last.length x.l, .int .i64 s.txg, .slice x.G s.gone.length x.g, .int .i64 s.keep, .slice x.D s.dead.length x.d, .bool s.same] 28)
  have hC := clone_ints x.R x.r s.sp.refs _ (by omega) (hA.sp.1.below B0)
  have hT := fun base g c xs W (hW : Below w.heap.size w W) (hgw : w.heap.size ≤ g) h1 h2 => take_any base g c x.g x.G s.sp.refs [] s.gone (s.txg - 1) xs W w hR h1 hg h2 (hA.gone.below hW) hA.gone hgw
  have hU := fun base g c xs W (hW : Below w.heap.size w W) (hgw : w.heap.size ≤ g) h1 h2 => take_any base g c x.d x.D s.sp.refs s.gone s.dead s.keep xs W w hR h1 hd h2 (hA.dead.below hW) hA.dead hgw
  have hS0 := SubR.start hl (fun i hi => (hR i hi).1)
  obtain ⟨R, hRR⟩ : ∃ R, R = s.sp.refs := ⟨_, rfl⟩
  obtain ⟨t1, ht1⟩ : ∃ t, t = takeB s.sp.refs [] s.gone (s.txg - 1) := ⟨_, rfl⟩
  obtain ⟨t2, ht2⟩ : ∃ t, t = takeB s.sp.refs s.gone s.dead s.keep := ⟨_, rfl⟩
  unfold TakePost at hT hU
  unfold refsB
  rw [← ht1, ← ht2]
  rw [← ht1] at hT
  rw [← ht2] at hU
  have HL := Lib.hid hl
  rw [hl] at hC b0 B0 ⊢
  have HT := Lib.hid hT
  have HU := Lib.hid hU
  have HS0 := Lib.hid hS0
  clear hT hU hS0 hl hR hA ht1 ht2 hRR hg hd
  go_enter Try.func88, Try.ntmps88
  go_wp2_with (go_at_call 107; refine hC.mono ?_; rintro r w2 ⟨A2, c2, rfl, ho, hb2⟩; refine Hid.out ?_)
  refine Lib.hid ?_
  obtain ⟨g, rfl, hg1, hg2⟩ := own_pos ho (by decide)
  rw [World.size_alloc] at hg1
  have BB := bel_then B0 hb2
  have b2 := b0.below hb2
  have L := HT.out _ g c2 _ w2 BB (by omega) HS0.out ho
  obtain ⟨x0, x1, x2, x3, x4, x5, x6, x7⟩ := b2.cells
  clear hC B0 b0 hb2 HT HS0 ho
  have hbg : some w.heap.size ≠ some g := fun e => by injection e with e; omega
  cases t1 with
  | false =>
    go_wp2_with (go_at_call 108; refine L.mono ?_; rintro r w3 ⟨rfl, GB, _⟩)
    go_ret
    exact ⟨rfl, BB.grown GB (by omega) (fun b e => by injection e with e; omega)⟩
  | true =>
    go_wp2_with (go_at_call 108; refine L.mono ?_; rintro r w3 ⟨rfl, GB, hy⟩; refine Hid.out ?_)
    refine Lib.hid ?_
    obtain ⟨ys, hys, ho3⟩ := hy trivial
    have B3 := BB.grown GB (by omega) (fun b e => by injection e with e; omega)
    have b3 := b2.grown GB hbg
    have L2 := HU.out _ g c2 ys w3 B3 (by omega) (by simpa using hys) ho3
    clear L b2 BB x0 x1 x2 x3 x4 x5 x6 x7 hy hys ho3 HU
    obtain ⟨x0, x1, x2, x3, x4, x5, x6, x7⟩ := b3.cells
    go_wp2_with (go_at_call 108; refine L2.mono ?_; rintro r w4 ⟨rfl, GB2, _⟩)
    go_ret
    exact ⟨rfl, B3.grown GB2 B3.size (fun b e => by injection e with e; omega)⟩

end Go.Proofs.Ytmnamclndpfjnaa
