/-
  The pointers of all places of a tree, as the specification has them.
-/
import Derived.Test.YtjmfefaoenmppaaGreatDoorTk
namespace Go.Proofs.YtjmfefaoenmppaaGreatDoor
open Go.RowKit

theorem ptrs_prefix {W : World} {g : Nat} {Q : List P5} (h : PtrsAt W g Q) (n : Nat) (hn : n ≤ Q.length) : PtrsAt W g (Q.take n) := ⟨h.1, fun j v hv => h.2 j v (by
  rw [← flat_take Q n hn] at hv
  have hj : j < (List.take (n * 5) (flat Q)).length := (List.getElem?_eq_some_iff.1 hv).1
  rw [List.length_take] at hj
  rw [List.getElem?_take_of_lt (by omega)] at hv
  exact hv)⟩

set_option maxRecDepth 100000 in
set_option maxHeartbeats 8000000 in
theorem spec_treeleaves (x : SA) (s : St) (a b c d e dep many : Int) (w : World) (hs : SBulk s) (hA : StAt w x s) :
    Calls Tryz.prog 16 #[.agg #[.slice x.A s.rows.length x.a, .slice x.R s.sp.refs.length x.r, .slice x.L s.sp.last.length x.l, .int .i64 s.txg, .slice x.G s.gone.length x.g, .int .i64 s.keep, .slice x.D s.dead.length x.d, .bool s.same], .agg #[.int .i64 a, .int .i64 b, .int .i64 c, .int .i64 d, .int .i64 e, .int .i64 dep, .int .i64 many]] w (LsPost (leavesO s ⟨⟨a, b, c, d, e⟩, dep, many⟩) 40 w) := by
  obtain ⟨i0, hi, hz0, hz1, hz2⟩ := info_parts Tryz.info40
  have c0 := (B8.new w 38 (.slice x.A s.rows.length x.a) (.slice x.R s.sp.refs.length x.r) (.slice x.L s.sp.last.length x.l) (.int .i64 s.txg) (.slice x.G s.gone.length x.g) (.int .i64 s.keep) (.slice x.D s.dead.length x.d) (.bool s.same)).alloc (.cells #[.int .i64 a, .int .i64 b, .int .i64 c, .int .i64 d, .int .i64 e, .int .i64 dep, .int .i64 many] 42)
  have t0 := B7.new (w.alloc (.cells #[.slice x.A s.rows.length x.a, .slice x.R s.sp.refs.length x.r, .slice x.L s.sp.last.length x.l, .int .i64 s.txg, .slice x.G s.gone.length x.g, .int .i64 s.keep, .slice x.D s.dead.length x.d, .bool s.same] 38)) a b c d e dep many 42
  have BB : Below w.heap.size w ((w.alloc (.cells #[.slice x.A s.rows.length x.a, .slice x.R s.sp.refs.length x.r, .slice x.L s.sp.last.length x.l, .int .i64 s.txg, .slice x.G s.gone.length x.g, .int .i64 s.keep, .slice x.D s.dead.length x.d, .bool s.same] 38)).alloc (.cells #[.int .i64 a, .int .i64 b, .int .i64 c, .int .i64 d, .int .i64 e, .int .i64 dep, .int .i64 many] 42)) := bel_new (bel_new (Below.refl _ _) _) _
  rw [World.size_alloc] at t0
  have hK := spec_treeok x s a b c d e dep many _ hs (hA.below BB)
  obtain ⟨G, hG⟩ : ∃ G, G = leavesO s ⟨⟨a, b, c, d, e⟩, dep, many⟩ := ⟨_, rfl⟩
  have hno := @leavesO_no s ⟨⟨a, b, c, d, e⟩, dep, many⟩
  have hyes := fun h Q => @leavesO_yes s ⟨⟨a, b, c, d, e⟩, dep, many⟩ h Q
  rw [← hG] at hno ⊢
  simp only [← hG] at hyes
  have hC := fun (hok : StOk s) (hf : formT ⟨⟨a, b, c, d, e⟩, dep, many⟩) W (hW : Below w.heap.size w W) => spec_leavesC x s a b c d e dep many (depthOf many) W hok hs.texts (hA.below hW) hf.2.2 (depthOf_le many) hf.2.1
  go_enter Tryz.func16, Tryz.ntmps16
  go_upto_region 1 with fail
  generalize hW0 : (w.alloc (.cells #[.slice x.A s.rows.length x.a, .slice x.R s.sp.refs.length x.r, .slice x.L s.sp.last.length x.l, .int .i64 s.txg, .slice x.G s.gone.length x.g, .int .i64 s.keep, .slice x.D s.dead.length x.d, .bool s.same] 38)).alloc (.cells #[.int .i64 a, .int .i64 b, .int .i64 c, .int .i64 d, .int .i64 e, .int .i64 dep, .int .i64 many] 42) = W0 at c0 t0 BB hK
  clear hW0 hG hA hs
  obtain ⟨x0, x1, x2, x3, x4, x5, x6, x7⟩ := c0.cells
  obtain ⟨y0, y1, y2, y3, y4, y5, y6⟩ := t0.cells
  by_cases hv : okSt s = true ∧ okT s ⟨⟨a, b, c, d, e⟩, dep, many⟩ = true
  · obtain ⟨hk1, hk2⟩ := hv
    rw [hk1, hk2] at hK
    have hok : StOk s := of_decide_eq_true hk1
    obtain ⟨hf, Q, hQ, -⟩ := okT_parts hk2
    have hfit := many_fits hf hQ
    have hQ16 : Q.length ≤ 16 := levS_16 (depthOf_le many) hQ
    have hC1 := hC hok hf
    rw [show levS s (depthOf many) [⟨a, b, c, d, e⟩] = some Q from hQ] at hC1
    obtain ⟨⟨hm0, hm1⟩, -, -⟩ := hf
    simp only at hm0 hm1 hfit
    have HY := Lib.hid (hyes ⟨hk1, hk2⟩ Q hQ)
    obtain ⟨n, rfl⟩ : ∃ n : Nat, many = (n : Int) := ⟨many.toNat, by omega⟩
    rw [Int.toNat_natCast] at hfit
    have hC2 : ∀ W, Below w.heap.size w W → Calls Tryz.prog 49 #[.agg #[.slice x.A s.rows.length x.a, .slice x.R s.sp.refs.length x.r, .slice x.L s.sp.last.length x.l, .int .i64 s.txg, .slice x.G s.gone.length x.g, .int .i64 s.keep, .slice x.D s.dead.length x.d, .bool s.same], .agg #[.int .i64 a, .int .i64 b, .int .i64 c, .int .i64 d, .int .i64 e, .int .i64 dep, .int .i64 (n : Int)]] W fun r w' => ∃ g cc : Nat, r = .returned (.tuple #[.slice (some ⟨g, 0, none⟩) Q.length cc, .bool true]) ∧ Below W.heap.size W w' ∧ PtrsAt w' g Q ∧ Q.length ≤ cc := fun W hW => (hC1 W hW).mono fun r w' h => by obtain ⟨h1, g, cc, h2, h3, h4, h5⟩ := h; exact ⟨g, cc, h2, h1, h4, h5⟩
    clear hno hyes hC hC1 hk1 hk2 hQ hok
    go_upto_region 4 with (first | (go_at_call 11; refine hK.mono ?_; rintro r w2 ⟨rfl, hb2⟩; have B2w := bel_then BB hb2; have t2 := t0.below hb2; obtain ⟨x0, x1, x2, x3, x4, x5, x6, x7⟩ := (c0.below hb2).cells; obtain ⟨y0, y1, y2, y3, y4, y5, y6⟩ := t2.cells) | (go_at_call 49; refine (hC2 _ B2w).mono ?_; rintro r w3 ⟨g, cc, rfl, hb3, hP, hcc⟩; have t3 := t2.below hb3))
    have B3 := bel_then B2w hb3
    have o1 := World.ownsRow_made (e := 40) (base := w3.heap.size) w3 (size := 5) #[] 0 (Nat.le_refl _) (by decide) rfl
    have Bn := bel_new (Below.refl w3.heap.size w3) (.cells #[] 40)
    obtain ⟨W4, hW4⟩ : ∃ W, W = w3.alloc (.cells #[] 40) := ⟨_, rfl⟩
    have hL := (ptrsAt_lies (ptrs_prefix hP n hfit)).below Bn
    have t4 := t3.below Bn
    have s4 : w3.heap.size ≤ (w3.alloc (.cells #[] 40)).heap.size := Bn.size
    have hnc : (n : Int) ≤ (cc : Int) := by omega
    have hln : (Q.take n).length = n := by rw [List.length_take]; omega
    have HLN := Lib.hid hln
    clear hW4 W4 x0 x1 x2 x3 x4 x5 x6 x7 y0 y1 y2 y3 y4 y5 y6 hC2 hK c0 t0 BB hP hb2 hb3 t2 t3 hln
    obtain ⟨y0, y1, y2, y3, y4, y5, y6⟩ := t4.cells
    go_wp2_with (at_builtin; refine wpList_append_lies2 _ rfl _ _ 36 rfl w3.heap.size 40 i0 (.agg #[.int .i64 0, .int .i64 0, .int .i64 0, .int .i64 0, .int .i64 0]) 5 40 Tryz.underlying36 hi hz0 hz1 hz2 rfl (by decide) _ _ _ rfl o1 (some ⟨g, 0, none⟩) n cc (flat (Q.take n)) rfl (by rw [flat_len, HLN.out, Nat.mul_comm]) hL (flat_one _) (by unfold maxLen; omega) (by omega) s4 ?_)
    intro v' w5 hown hgrow
    have R5 : w5.ownsRow w3.heap.size 40 5 v' n (flat (Q.take n)) := hown
    have B5 := Fx.bel_row5 Bn o1 (Nat.le_refl _) hgrow
    obtain ⟨A5, c5, rfl, -⟩ := own_lies R5
    have HF : Hid (LsPost G 40 w (.returned (.tuple #[.slice A5 n c5, .bool true])) w5) := Lib.hid (by
      rw [HY.out, Int.toNat_natCast]
      refine ⟨bel_then B3 B5, A5, c5, ?_, ?_⟩
      · show _ = Ending.returned (.tuple #[.slice A5 (Q.take n).length c5, .bool true])
        rw [HLN.out]
      · show w5.ownsRow w.heap.size 40 5 (.slice A5 (Q.take n).length c5) (Q.take n).length (flat (Q.take n))
        rw [HLN.out]; exact own_base R5 B3.size)
    clear R5 hown hgrow
    go_wp2_with fail
    go_ret2
    exact HF.out
  · have HN := Lib.hid (hno hv)
    have hK2 : Calls Tryz.prog 11 #[.agg #[.slice x.A s.rows.length x.a, .slice x.R s.sp.refs.length x.r, .slice x.L s.sp.last.length x.l, .int .i64 s.txg, .slice x.G s.gone.length x.g, .int .i64 s.keep, .slice x.D s.dead.length x.d, .bool s.same], .agg #[.int .i64 a, .int .i64 b, .int .i64 c, .int .i64 d, .int .i64 e, .int .i64 dep, .int .i64 many]] W0 fun r w' => r = .returned (.bool false) ∧ Below W0.heap.size W0 w' := by
      have h0 : (okSt s && okT s ⟨⟨a, b, c, d, e⟩, dep, many⟩) = false := by
        cases h1 : okSt s with
        | false => rfl
        | true =>
          cases h2 : okT s ⟨⟨a, b, c, d, e⟩, dep, many⟩ with
          | false => rfl
          | true => exact absurd ⟨h1, h2⟩ hv
      rw [h0] at hK
      exact hK
    clear hno hyes hv hC hK
    go_wp2_with (go_at_call 11; refine hK2.mono ?_; rintro r w2 ⟨rfl, hb2⟩)
    go_ret2
    rw [HN.out]
    exact ⟨bel_new (bel_then BB hb2) _, _, _, rfl, own_base (World.ownsRow_made (e := 40) (base := w2.heap.size) w2 (size := 5) #[] 0 (Nat.le_refl _) (by decide) rfl) (bel_then BB hb2).size⟩
end Go.Proofs.YtjmfefaoenmppaaGreatDoor
