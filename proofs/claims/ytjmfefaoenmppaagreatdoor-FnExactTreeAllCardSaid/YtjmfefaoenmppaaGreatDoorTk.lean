/-
  The pointers of all places of a tree, both ways.
-/
import Derived.Test.YtjmfefaoenmppaaGreatDoorTh
import Derived.Test.YtjmfefaoenmppaaGreatDoorTuC
import Derived.Test.YtjmfefaoenmppaaGreatDoorKG
namespace Go.Proofs.YtjmfefaoenmppaaGreatDoor
open Go.RowKit

/-- The pointers of the places of a tree, if it is valid. -/
def leavesO (s : St) (t : Tr) : Option (List P5) := if okSt s = true ∧ okT s t = true then (leavesT s t).map fun Q => Q.take t.many.toNat else none
theorem leavesO_no {s : St} {t : Tr} (h : ¬ (okSt s = true ∧ okT s t = true)) : leavesO s t = none := if_neg h
theorem leavesO_yes {s : St} {t : Tr} (h : okSt s = true ∧ okT s t = true) {Q : List P5} (hQ : leavesT s t = some Q) : leavesO s t = some (Q.take t.many.toNat) := by unfold leavesO; rw [if_pos h, hQ]; rfl
theorem many_fits {t : Tr} (hf : formT t) {s : St} {Q : List P5} (hQ : leavesT s t = some Q) : t.many.toNat ≤ Q.length := by
  have h := levS_len (show levS s (depthOf t.many) [t.root] = some Q from hQ)
  obtain ⟨⟨h0, h1⟩, -, -⟩ := hf
  rw [h]
  unfold depthOf
  split
  · simp; omega
  · split
    · simp; omega
    · simp; omega
def LsPost (o : Option (List P5)) (t : TypeId) (w : World) (e : Ending) (w' : World) : Prop := Below w.heap.size w w' ∧
  ∃ (A : Option Addr) (c : Nat), e = .returned (.tuple #[.slice A (o.getD []).length c, .bool o.isSome]) ∧ w'.ownsRow w.heap.size t 5 (.slice A (o.getD []).length c) (o.getD []).length (flat (o.getD []))
theorem leavesO_16 {s : St} {t : Tr} : ((leavesO s t).getD []).length ≤ 16 := by
  unfold leavesO
  split
  · next h =>
    obtain ⟨hf, Q, hQ, -⟩ := okT_parts h.2
    rw [hQ]
    have := levS_16 (depthOf_le t.many) (show levS s (depthOf t.many) [t.root] = some Q from hQ)
    show (Q.take _).length ≤ 16
    rw [List.length_take]
    omega
  · exact Nat.zero_le _
theorem flat_take (ps : List P5) (n : Nat) (h : n ≤ ps.length) : (flat ps).take (n * 5) = flat (ps.take n) := by
  have e : flat ps = flat (ps.take n) ++ flat (ps.drop n) := by rw [← flat_app, List.take_append_drop]
  have hl : (flat (ps.take n)).length = n * 5 := by rw [flat_len, List.length_take]; omega
  rw [e, ← hl, List.take_left]
theorem own_part (w : World) (base : Nat) (Q : List P5) (n : Nat) (hb : base ≤ w.heap.size) (h16 : Q.length ≤ 16) (hn : n ≤ Q.length) :
    (w.alloc (.cells (flat (pad Q)).toArray 80)).ownsRow base 80 5 (.slice (some ⟨w.heap.size, 0, none⟩) (Q.take n).length 16) (Q.take n).length (flat (Q.take n)) := by
  have hl : (Q.take n).length = n := by rw [List.length_take]; omega
  have hp : (pad Q).take n = Q.take n := by unfold pad; rw [List.take_append_of_le_length hn]
  rw [hl]
  refine ⟨by rw [flat_len, hl]; omega, .inr ⟨w.heap.size, 16, (flat (pad Q)).toArray, rfl, hb, heap_alloc_new w _, by omega, by decide, by show (flat (pad Q)).length = _; rw [flat_len, pad_len h16], ?_⟩⟩
  show (flat (pad Q)).take (n * 5) = _
  rw [flat_take _ _ (by rw [pad_len h16]; omega), hp]

set_option maxRecDepth 100000 in
set_option maxHeartbeats 8000000 in
theorem impl_treeleaves (x : SA) (s : St) (a b c d e dep many : Int) (w : World) (hs : SBulk s) (hA : StAt w x s) (hE : Fx.Env w) :
    Calls Tryz.prog 17 #[.agg #[.slice x.A s.rows.length x.a, .slice x.R s.sp.refs.length x.r, .slice x.L s.sp.last.length x.l, .int .i64 s.txg, .slice x.G s.gone.length x.g, .int .i64 s.keep, .slice x.D s.dead.length x.d, .bool s.same], .agg #[.int .i64 a, .int .i64 b, .int .i64 c, .int .i64 d, .int .i64 e, .int .i64 dep, .int .i64 many]] w (LsPost (leavesO s ⟨⟨a, b, c, d, e⟩, dep, many⟩) 80 w) := by
  have c0 := (B8.new w 38 (.slice x.A s.rows.length x.a) (.slice x.R s.sp.refs.length x.r) (.slice x.L s.sp.last.length x.l) (.int .i64 s.txg) (.slice x.G s.gone.length x.g) (.int .i64 s.keep) (.slice x.D s.dead.length x.d) (.bool s.same)).alloc (.cells #[.int .i64 a, .int .i64 b, .int .i64 c, .int .i64 d, .int .i64 e, .int .i64 dep, .int .i64 many] 42)
  have t0 := B7.new (w.alloc (.cells #[.slice x.A s.rows.length x.a, .slice x.R s.sp.refs.length x.r, .slice x.L s.sp.last.length x.l, .int .i64 s.txg, .slice x.G s.gone.length x.g, .int .i64 s.keep, .slice x.D s.dead.length x.d, .bool s.same] 38)) a b c d e dep many 42
  have BB : Below w.heap.size w ((w.alloc (.cells #[.slice x.A s.rows.length x.a, .slice x.R s.sp.refs.length x.r, .slice x.L s.sp.last.length x.l, .int .i64 s.txg, .slice x.G s.gone.length x.g, .int .i64 s.keep, .slice x.D s.dead.length x.d, .bool s.same] 38)).alloc (.cells #[.int .i64 a, .int .i64 b, .int .i64 c, .int .i64 d, .int .i64 e, .int .i64 dep, .int .i64 many] 42)) := bel_new (bel_new (Below.refl _ _) _) _
  rw [World.size_alloc] at t0
  have hP := impl_plant x s a b c d e dep many _ hs (hA.below BB) (hE.at BB)
  obtain ⟨G, hG⟩ : ∃ G, G = leavesO s ⟨⟨a, b, c, d, e⟩, dep, many⟩ := ⟨_, rfl⟩
  have hno := @leavesO_no s ⟨⟨a, b, c, d, e⟩, dep, many⟩
  have hyes := fun h Q => @leavesO_yes s ⟨⟨a, b, c, d, e⟩, dep, many⟩ h Q
  rw [← hG] at hno ⊢
  simp only [← hG] at hyes
  obtain ⟨O, hO⟩ : ∃ O, O = plantO s ⟨⟨a, b, c, d, e⟩, dep, many⟩ := ⟨_, rfl⟩
  rw [← hO] at hP
  go_enter Tryz.func17, Tryz.ntmps17
  go_upto_region 1 with fail
  generalize hW0 : (w.alloc (.cells #[.slice x.A s.rows.length x.a, .slice x.R s.sp.refs.length x.r, .slice x.L s.sp.last.length x.l, .int .i64 s.txg, .slice x.G s.gone.length x.g, .int .i64 s.keep, .slice x.D s.dead.length x.d, .bool s.same] 38)).alloc (.cells #[.int .i64 a, .int .i64 b, .int .i64 c, .int .i64 d, .int .i64 e, .int .i64 dep, .int .i64 many] 42) = W0 at c0 t0 BB hP
  clear hW0 hE hG hA hs
  obtain ⟨x0, x1, x2, x3, x4, x5, x6, x7⟩ := c0.cells
  obtain ⟨y0, y1, y2, y3, y4, y5, y6⟩ := t0.cells
  cases O with
  | none =>
    have hP2 : Calls Tryz.prog 46 #[.agg #[.slice x.A s.rows.length x.a, .slice x.R s.sp.refs.length x.r, .slice x.L s.sp.last.length x.l, .int .i64 s.txg, .slice x.G s.gone.length x.g, .int .i64 s.keep, .slice x.D s.dead.length x.d, .bool s.same], .agg #[.int .i64 a, .int .i64 b, .int .i64 c, .int .i64 d, .int .i64 e, .int .i64 dep, .int .i64 many]] W0 fun r w' => r = .returned (.tuple #[.agg #[.pointer none, .int .i64 0], .bool false]) ∧ Below W0.heap.size W0 w' := hP.mono fun r w' h => ⟨h.2, h.1⟩
    have HN := Lib.hid (hno (plant_none hO.symm))
    clear hP hno hyes hO
    go_wp2_with (go_at_call 46; refine hP2.mono ?_; rintro r w2 ⟨rfl, hb2⟩)
    go_ret2
    rw [HN.out]
    exact ⟨bel_new (bel_then BB hb2) _, none, 0, rfl, World.ownsRow_nil _ _ _ _⟩
  | some L =>
    have hP2 : Calls Tryz.prog 46 #[.agg #[.slice x.A s.rows.length x.a, .slice x.R s.sp.refs.length x.r, .slice x.L s.sp.last.length x.l, .int .i64 s.txg, .slice x.G s.gone.length x.g, .int .i64 s.keep, .slice x.D s.dead.length x.d, .bool s.same], .agg #[.int .i64 a, .int .i64 b, .int .i64 c, .int .i64 d, .int .i64 e, .int .i64 dep, .int .i64 many]] W0 fun r w' => ∃ g gs, r = .returned (.tuple #[.agg #[.pointer (some ⟨g, 0, none⟩), .int .i64 many], .bool true]) ∧ Below W0.heap.size W0 w' ∧ TrAt w' (fun k => W0.heap.size ≤ k) (depthOf many) g L gs := hP.mono fun r w' h => by obtain ⟨h1, g, gs, h2, h3⟩ := h; exact ⟨g, gs, h2, h1, h3⟩
    obtain ⟨hk1, hk2, hlv⟩ := plant_leaves hO.symm
    have hf := (okT_parts hk2).1
    have hfit := many_fits hf hlv
    obtain ⟨⟨hm0, hm1⟩, -, -⟩ := hf
    simp only at hm0 hm1 hfit
    have HY := Lib.hid (hyes ⟨hk1, hk2⟩ (lv L) hlv)
    obtain ⟨n, rfl⟩ : ∃ n : Nat, many = (n : Int) := ⟨many.toNat, by omega⟩
    rw [Int.toNat_natCast] at hfit
    have hn16 : n ≤ 16 := by omega
    have hn16' : (n : Int) ≤ 16 := by omega
    clear hP hO hlv hno hyes hk1 hk2
    go_upto_region 2 with (go_at_call 46; refine hP2.mono ?_; rintro r w2 ⟨g, gs, rfl, hb2, hT⟩)
    have h16 : (lv L).length ≤ 16 := by
      rw [hT.places]
      have := depthOf_le (n : Int)
      rcases (show depthOf (n : Int) = 0 ∨ depthOf (n : Int) = 1 ∨ depthOf (n : Int) = 2 by omega) with h | h | h <;> rw [h] <;> decide
    have hn : gs.length ≤ 1000 := by
      have h1 := hT.few
      have := depthOf_le (n : Int)
      have h2 : 5 ^ depthOf (n : Int) ≤ 25 := by rcases (show depthOf (n : Int) = 0 ∨ depthOf (n : Int) = 1 ∨ depthOf (n : Int) = 2 by omega) with h | h | h <;> rw [h] <;> decide
      omega
    have B23 := (Below.refl w2.heap.size w2).alloc (Nat.le_refl _) (.cells #[.pointer (some ⟨g, 0, none⟩), .int .i64 (n : Int)] 74)
    have b3 := Go.Proofs.YtjmfefaoenmppaaGreatDoor.B2.new w2 74 (.pointer (some ⟨g, 0, none⟩)) (.int .i64 (n : Int))
    generalize hW3 : w2.alloc (.cells #[.pointer (some ⟨g, 0, none⟩), .int .i64 (n : Int)] 74) = w3 at B23 b3 ⊢
    clear hW3 x0 x1 x2 x3 x4 x5 x6 x7 y0 y1 y2 y3 y4 y5 y6 hP2 t0 c0
    have T3 := hT.below B23
    have B3 := bel_then (bel_then BB hb2) B23
    clear hT hb2 B23 BB
    obtain ⟨⟨z0, z1⟩, -, -⟩ := b3.cells
    have hLv := impl_leaves g (n : Int) L gs w3 T3.all h16 hn (fun W hW => impl_all _ _ g L gs W (T3.below hW) hn)
    obtain ⟨cs, hcs⟩ : ∃ cs, cs = flat (pad (lv L)) := ⟨_, rfl⟩
    have hl : cs.length = 80 := by rw [hcs, flat_len, pad_len h16]
    have h1 : cs.toArray.all (·.oneCell') = true := by rw [hcs]; exact all_oneCell_toArray (flat_one _)
    have hLv2 : Calls Tryz.prog 50 #[.agg #[.pointer (some ⟨g, 0, none⟩), .int .i64 (n : Int)]] w3 fun r w' => r = .returned (.agg cs.toArray) ∧ Below w3.heap.size w3 w' := by rw [hcs]; exact hLv
    have HI : Hid ((Tryz.prog.info? 80).map (·.size) = some cs.toArray.size) := Lib.hid (by show _ = some cs.length; rw [hl]; exact info80)
    have HL := Lib.hid hl
    have H1 := Lib.hid h1
    have HC := Lib.hid hcs
    clear hLv hcs hl h1 T3 hn
    go_upto_region 5 with (first | (go_at_call 50; refine hLv2.mono ?_; rintro r w4 ⟨rfl, hb4⟩; have sb := b3.below hb4) | (refine Fx.wpList_store_new rfl 80 _ _ rfl w4 _ cs.toArray rfl rfl HI.out (by show _ = cs.length; rw [HL.out]; rfl) H1.out ?_))
    have b4 := (b3.below hb4).alloc (.cells cs.toArray 80)
    have B4 := bel_new (bel_then B3 hb4) (.cells cs.toArray 80)
    have O4 : (w4.alloc (.cells cs.toArray 80)).ownsRow w.heap.size 80 5 (.slice (some ⟨w4.heap.size, 0, none⟩) ((lv L).take n).length 16) ((lv L).take n).length (flat ((lv L).take n)) := by
      rw [HC.out]
      exact own_part w4 w.heap.size (lv L) n (bel_then B3 hb4).size h16 hfit
    have HF : Hid (LsPost G 80 w (.returned (.tuple #[.slice (some ⟨w4.heap.size, 0, none⟩) n 16, .bool true])) (w4.alloc (.cells cs.toArray 80))) := Lib.hid (by
      rw [HY.out, Int.toNat_natCast]
      refine ⟨B4, some ⟨w4.heap.size, 0, none⟩, 16, ?_, O4⟩
      show _ = Ending.returned (.tuple #[.slice (some ⟨w4.heap.size, 0, none⟩) ((lv L).take n).length 16, .bool true])
      rw [show ((lv L).take n).length = n by rw [List.length_take]; omega])
    clear z0 z1 O4 b3 hLv2
    obtain ⟨⟨z0, z1⟩, -, -⟩ := b4.cells
    go_wp2_with fail
    all_goals go_ret2
    all_goals exact HF.out
end Go.Proofs.YtjmfefaoenmppaaGreatDoor
