/-
  Whether a tree is valid, both ways; a law's copy of a tree.
-/
import Derived.Test.YtjmfefaoenmppaaGreatDoorTv
import Derived.Test.YtjmfefaoenmppaaGreatDoorTf
namespace Go.Proofs.YtjmfefaoenmppaaGreatDoor
open Go.RowKit

theorem plantO_ok {s : St} {t : Tr} : (plantO s t).isSome = (okSt s && okT s t) := by
  unfold plantO
  cases hk : okSt s with
  | false => rfl
  | true =>
    rw [if_pos rfl, Bool.true_and]
    have hs : StOk s := of_decide_eq_true hk
    have h := plant_eq (s := s) (t := t) (by have := hs.txg; omega)
    cases ho : okT s t with
    | false =>
      rw [ho] at h
      rw [Option.map_eq_none_iff.1 (h.trans (if_neg (by decide)))]
      rfl
    | true =>
      rw [ho, if_pos rfl] at h
      cases hl : leavesT s t with
      | none => rw [okT_none hl] at ho; cases ho
      | some Q =>
        rw [hl] at h
        obtain ⟨L, hL, _⟩ := Option.map_eq_some_iff.1 h
        rw [hL]
        rfl

set_option maxRecDepth 100000 in
set_option maxHeartbeats 8000000 in
theorem spec_treeok (x : SA) (s : St) (a b c d e dep many : Int) (w : World) (hs : SBulk s) (hA : StAt w x s) :
    Calls Tryz.prog 11 #[.agg #[.slice x.A s.rows.length x.a, .slice x.R s.sp.refs.length x.r, .slice x.L s.sp.last.length x.l, .int .i64 s.txg, .slice x.G s.gone.length x.g, .int .i64 s.keep, .slice x.D s.dead.length x.d, .bool s.same], .agg #[.int .i64 a, .int .i64 b, .int .i64 c, .int .i64 d, .int .i64 e, .int .i64 dep, .int .i64 many]] w fun r w' => r = .returned (.bool (okSt s && okT s ⟨⟨a, b, c, d, e⟩, dep, many⟩)) ∧ Below w.heap.size w w' := by
  have c0 := (B8.new w 38 (.slice x.A s.rows.length x.a) (.slice x.R s.sp.refs.length x.r) (.slice x.L s.sp.last.length x.l) (.int .i64 s.txg) (.slice x.G s.gone.length x.g) (.int .i64 s.keep) (.slice x.D s.dead.length x.d) (.bool s.same)).alloc (.cells #[.int .i64 a, .int .i64 b, .int .i64 c, .int .i64 d, .int .i64 e, .int .i64 dep, .int .i64 many] 42)
  have t0 := B7.new (w.alloc (.cells #[.slice x.A s.rows.length x.a, .slice x.R s.sp.refs.length x.r, .slice x.L s.sp.last.length x.l, .int .i64 s.txg, .slice x.G s.gone.length x.g, .int .i64 s.keep, .slice x.D s.dead.length x.d, .bool s.same] 38)) a b c d e dep many 42
  have BB : Below w.heap.size w ((w.alloc (.cells #[.slice x.A s.rows.length x.a, .slice x.R s.sp.refs.length x.r, .slice x.L s.sp.last.length x.l, .int .i64 s.txg, .slice x.G s.gone.length x.g, .int .i64 s.keep, .slice x.D s.dead.length x.d, .bool s.same] 38)).alloc (.cells #[.int .i64 a, .int .i64 b, .int .i64 c, .int .i64 d, .int .i64 e, .int .i64 dep, .int .i64 many] 42)) := bel_new (bel_new (Below.refl _ _) _) _
  rw [World.size_alloc] at t0
  have hK := fun W (hW : Below w.heap.size w W) => spec_sok x s W hs (hA.below hW)
  have hT := fun (hok : StOk s) W (hW : Below w.heap.size w W) => spec_l8ok x s a b c d e dep many W hok hs.texts (hA.below hW)
  go_enter Tryz.func11, Tryz.ntmps11
  go_upto_region 1 with fail
  generalize hW0 : (w.alloc (.cells #[.slice x.A s.rows.length x.a, .slice x.R s.sp.refs.length x.r, .slice x.L s.sp.last.length x.l, .int .i64 s.txg, .slice x.G s.gone.length x.g, .int .i64 s.keep, .slice x.D s.dead.length x.d, .bool s.same] 38)).alloc (.cells #[.int .i64 a, .int .i64 b, .int .i64 c, .int .i64 d, .int .i64 e, .int .i64 dep, .int .i64 many] 42) = W0 at c0 t0 BB
  clear hW0 hs hA
  obtain ⟨x0, x1, x2, x3, x4, x5, x6, x7⟩ := c0.cells
  obtain ⟨y0, y1, y2, y3, y4, y5, y6⟩ := t0.cells
  cases hk : okSt s with
  | false =>
    have hK2 := hK W0 BB
    have HK := Lib.hid hk
    rw [hk] at hK2
    clear hk hT hK
    go_wp2_with (go_at_call 40; refine hK2.mono ?_; rintro r w2 ⟨rfl, hb2⟩)
    go_ret
    exact ⟨by rw [HK.out]; rfl, bel_then BB hb2⟩
  | true =>
    have hok : StOk s := of_decide_eq_true hk
    have hK2 := hK W0 BB
    rw [hk] at hK2
    have hT2 := hT hok
    obtain ⟨T, hTT⟩ : ∃ T, T = okT s ⟨⟨a, b, c, d, e⟩, dep, many⟩ := ⟨_, rfl⟩
    rw [← hTT] at hT2
    have HT := Lib.hid hTT
    have HK := Lib.hid hk
    clear hk hT hK hok hTT
    go_wp2_with (first | (go_at_call 40; refine hK2.mono ?_; rintro r w2 ⟨rfl, hb2⟩; have c2 := c0.below hb2; have t2 := t0.below hb2; have B2 := bel_then BB hb2; obtain ⟨x0, x1, x2, x3, x4, x5, x6, x7⟩ := c2.cells; obtain ⟨y0, y1, y2, y3, y4, y5, y6⟩ := t2.cells) | (go_at_call 41; refine (hT2 _ B2).mono ?_; rintro r w3 ⟨rfl, hb3⟩))
    go_ret
    exact ⟨by rw [HK.out, ← HT.out]; cases T <;> rfl, bel_then B2 hb3⟩

set_option maxRecDepth 100000 in
set_option maxHeartbeats 8000000 in
theorem impl_treeok (x : SA) (s : St) (a b c d e dep many : Int) (w : World) (hs : SBulk s) (hA : StAt w x s) (hE : Fx.Env w) :
    Calls Tryz.prog 14 #[.agg #[.slice x.A s.rows.length x.a, .slice x.R s.sp.refs.length x.r, .slice x.L s.sp.last.length x.l, .int .i64 s.txg, .slice x.G s.gone.length x.g, .int .i64 s.keep, .slice x.D s.dead.length x.d, .bool s.same], .agg #[.int .i64 a, .int .i64 b, .int .i64 c, .int .i64 d, .int .i64 e, .int .i64 dep, .int .i64 many]] w fun r w' => r = .returned (.bool (okSt s && okT s ⟨⟨a, b, c, d, e⟩, dep, many⟩)) ∧ Below w.heap.size w w' := by
  have c0 := (B8.new w 38 (.slice x.A s.rows.length x.a) (.slice x.R s.sp.refs.length x.r) (.slice x.L s.sp.last.length x.l) (.int .i64 s.txg) (.slice x.G s.gone.length x.g) (.int .i64 s.keep) (.slice x.D s.dead.length x.d) (.bool s.same)).alloc (.cells #[.int .i64 a, .int .i64 b, .int .i64 c, .int .i64 d, .int .i64 e, .int .i64 dep, .int .i64 many] 42)
  have t0 := B7.new (w.alloc (.cells #[.slice x.A s.rows.length x.a, .slice x.R s.sp.refs.length x.r, .slice x.L s.sp.last.length x.l, .int .i64 s.txg, .slice x.G s.gone.length x.g, .int .i64 s.keep, .slice x.D s.dead.length x.d, .bool s.same] 38)) a b c d e dep many 42
  have BB : Below w.heap.size w ((w.alloc (.cells #[.slice x.A s.rows.length x.a, .slice x.R s.sp.refs.length x.r, .slice x.L s.sp.last.length x.l, .int .i64 s.txg, .slice x.G s.gone.length x.g, .int .i64 s.keep, .slice x.D s.dead.length x.d, .bool s.same] 38)).alloc (.cells #[.int .i64 a, .int .i64 b, .int .i64 c, .int .i64 d, .int .i64 e, .int .i64 dep, .int .i64 many] 42)) := bel_new (bel_new (Below.refl _ _) _) _
  rw [World.size_alloc] at t0
  rw [← plantO_ok]
  have hP := impl_plant x s a b c d e dep many _ hs (hA.below BB) (hE.at BB)
  obtain ⟨O, hO⟩ : ∃ O, O = plantO s ⟨⟨a, b, c, d, e⟩, dep, many⟩ := ⟨_, rfl⟩
  rw [← hO] at hP ⊢
  clear hO hs hA hE
  go_enter Tryz.func14, Tryz.ntmps14
  go_upto_region 1 with fail
  generalize hW0 : (w.alloc (.cells #[.slice x.A s.rows.length x.a, .slice x.R s.sp.refs.length x.r, .slice x.L s.sp.last.length x.l, .int .i64 s.txg, .slice x.G s.gone.length x.g, .int .i64 s.keep, .slice x.D s.dead.length x.d, .bool s.same] 38)).alloc (.cells #[.int .i64 a, .int .i64 b, .int .i64 c, .int .i64 d, .int .i64 e, .int .i64 dep, .int .i64 many] 42) = W0 at c0 t0 BB hP
  clear hW0
  obtain ⟨x0, x1, x2, x3, x4, x5, x6, x7⟩ := c0.cells
  obtain ⟨y0, y1, y2, y3, y4, y5, y6⟩ := t0.cells
  cases O with
  | none =>
    have hP2 : Calls Tryz.prog 46 #[.agg #[.slice x.A s.rows.length x.a, .slice x.R s.sp.refs.length x.r, .slice x.L s.sp.last.length x.l, .int .i64 s.txg, .slice x.G s.gone.length x.g, .int .i64 s.keep, .slice x.D s.dead.length x.d, .bool s.same], .agg #[.int .i64 a, .int .i64 b, .int .i64 c, .int .i64 d, .int .i64 e, .int .i64 dep, .int .i64 many]] W0 fun r w' => r = .returned (.tuple #[.agg #[.pointer none, .int .i64 0], .bool false]) ∧ Below W0.heap.size W0 w' := hP.mono fun r w' h => ⟨h.2, h.1⟩
    clear hP
    go_wp2_with (go_at_call 46; refine hP2.mono ?_; rintro r w2 ⟨rfl, hb2⟩)
    go_ret
    exact ⟨rfl, bel_new (bel_then BB hb2) _⟩
  | some L =>
    have hP2 : Calls Tryz.prog 46 #[.agg #[.slice x.A s.rows.length x.a, .slice x.R s.sp.refs.length x.r, .slice x.L s.sp.last.length x.l, .int .i64 s.txg, .slice x.G s.gone.length x.g, .int .i64 s.keep, .slice x.D s.dead.length x.d, .bool s.same], .agg #[.int .i64 a, .int .i64 b, .int .i64 c, .int .i64 d, .int .i64 e, .int .i64 dep, .int .i64 many]] W0 fun r w' => ∃ g, r = .returned (.tuple #[.agg #[.pointer (some ⟨g, 0, none⟩), .int .i64 many], .bool true]) ∧ Below W0.heap.size W0 w' := hP.mono fun r w' h => by obtain ⟨h1, g, gs, h2, h3⟩ := h; exact ⟨g, h2, h1⟩
    clear hP
    go_wp2_with (go_at_call 46; refine hP2.mono ?_; rintro r w2 ⟨g, rfl, hb2⟩)
    go_ret
    exact ⟨rfl, bel_new (bel_then BB hb2) _⟩

theorem B7.set {W : World} {g : Nat} {a b c d e dep many : Int} {t : TypeId} (h : B7 W g a b c d e dep many t) {p : Addr} (hp : g ≠ p.block) (u : Value) : B7 (W.setCell p u) g a b c d e dep many t := (Below.heap_setCell W p u g hp).trans h
theorem B7.fill {W : World} {g : Nat} {t : TypeId} (h : B7 W g 0 0 0 0 0 0 0 t) (a b c d e dep many : Int) : B7 (((((((W.setCell ⟨g, 0, none⟩ (.int .i64 a)).setCell ⟨g, 1, none⟩ (.int .i64 b)).setCell ⟨g, 2, none⟩ (.int .i64 c)).setCell ⟨g, 3, none⟩ (.int .i64 d)).setCell ⟨g, 4, none⟩ (.int .i64 e)).setCell ⟨g, 5, none⟩ (.int .i64 dep)).setCell ⟨g, 6, none⟩ (.int .i64 many)) g a b c d e dep many t :=
  heap_put (heap_put (heap_put (heap_put (heap_put (heap_put (heap_put h 0 (.int .i64 a)) 1 (.int .i64 b)) 2 (.int .i64 c)) 3 (.int .i64 d)) 4 (.int .i64 e)) 5 (.int .i64 dep)) 6 (.int .i64 many)
theorem B7.fro {W : World} {g : Nat} {a b c d e dep many : Int} {t : TypeId} (h : B7 W g a b c d e dep many t) (k : Nat) : W.frozen? ⟨g, k, none⟩ = false := by
  unfold B7 at h
  simp [World.frozen?, h]
end Go.Proofs.YtjmfefaoenmppaaGreatDoor
