/-
  The text at a place of a tree, as the program reads it.
-/
import Derived.Test.YtjmfefaoenmppaaGreatDoorTw
import Derived.Test.YtjmfefaoenmppaaGreatDoorTg
namespace Go.Proofs.YtjmfefaoenmppaaGreatDoor
open Go.RowKit

/-- The text at a place of a tree, and true, if there is one. -/
def placeT (s : St) (t : Tr) (n : Nat) : P5 := ((leavesT s t).getD []).getD n P5.zero
def getT (s : St) (t : Tr) (k : Int) : ByteArray × Bool := if (okSt s = true ∧ okT s t = true) ∧ 0 ≤ k ∧ k ≤ t.many - 1 then ((readC s (placeT s t k.toNat)).1, true) else (b0, false)
theorem getT_no {s : St} {t : Tr} {k : Int} (h : ¬ ((okSt s = true ∧ okT s t = true) ∧ 0 ≤ k ∧ k ≤ t.many - 1)) : getT s t k = (b0, false) := if_neg h
theorem getT_yes {s : St} {t : Tr} {k : Int} (h : (okSt s = true ∧ okT s t = true) ∧ 0 ≤ k ∧ k ≤ t.many - 1) : getT s t k = ((readC s (placeT s t k.toNat)).1, true) := if_pos h
theorem okT_parts {s : St} {t : Tr} (h : okT s t = true) : formT t ∧ ∃ Q, leavesT s t = some Q ∧ allT s t.many Q := by
  by_cases hf : formT t
  · cases hl : leavesT s t with
    | none => rw [okT_none hl] at h; cases h
    | some Q => rw [okT_some hf hl] at h; exact ⟨hf, Q, rfl, of_decide_eq_true h⟩
  · rw [okT_form hf] at h; cases h
theorem place_ok {s : St} {t : Tr} {n : Nat} (h : okT s t = true) : (placeT s t n).ok = true ∧ (readC s (placeT s t n)).2 = true := by
  obtain ⟨hf, Q, hl, ha⟩ := okT_parts h
  unfold placeT
  rw [hl, Option.getD_some]
  by_cases hn : n < Q.length
  · constructor
    · rw [List.getD_eq_getElem?_getD, List.getElem?_eq_getElem hn, Option.getD_some]
      exact levS_ok (fun p hp => by rw [List.mem_singleton.1 hp]; exact hf.2.2) hl _ (List.getElem_mem hn)
    · rcases ha n hn with h | h
      · exact hole_read h
      · exact h.1
  · rw [List.getD_eq_getElem?_getD, List.getElem?_eq_none (by omega)]
    exact ⟨rfl, hole_read rfl⟩
theorem plant_leaves {s : St} {t : Tr} {L : Br} (h : plantO s t = some L) : okSt s = true ∧ okT s t = true ∧ leavesT s t = some (lv L) := by
  have h1 := plantO_ok (s := s) (t := t)
  rw [h] at h1
  have h2 : okSt s = true ∧ okT s t = true := by simpa using h1.symm
  refine ⟨h2.1, h2.2, ?_⟩
  have hs : StOk s := of_decide_eq_true h2.1
  have h3 := plant_eq (s := s) (t := t) (by have := hs.txg; omega)
  rw [if_pos h2.2] at h3
  rw [← h3]
  unfold plantO at h
  rw [if_pos h2.1] at h
  rw [h]
  rfl
theorem plant_none {s : St} {t : Tr} (h : plantO s t = none) : ¬ (okSt s = true ∧ okT s t = true) := fun e => by
  have h1 := plantO_ok (s := s) (t := t)
  rw [h, e.1, e.2] at h1
  cases h1

set_option maxRecDepth 100000 in
set_option maxHeartbeats 8000000 in
theorem impl_treeget (x : SA) (s : St) (a b c d e dep many k : Int) (w : World) (hs : SBulk s) (hA : StAt w x s) (hE : Fx.Env w) :
    Calls Tryz.prog 23 #[.agg #[.slice x.A s.rows.length x.a, .slice x.R s.sp.refs.length x.r, .slice x.L s.sp.last.length x.l, .int .i64 s.txg, .slice x.G s.gone.length x.g, .int .i64 s.keep, .slice x.D s.dead.length x.d, .bool s.same], .agg #[.int .i64 a, .int .i64 b, .int .i64 c, .int .i64 d, .int .i64 e, .int .i64 dep, .int .i64 many], .int .i64 k] w (RdPost (getT s ⟨⟨a, b, c, d, e⟩, dep, many⟩ k) w) := by
  have c0 := (B8.new w 38 (.slice x.A s.rows.length x.a) (.slice x.R s.sp.refs.length x.r) (.slice x.L s.sp.last.length x.l) (.int .i64 s.txg) (.slice x.G s.gone.length x.g) (.int .i64 s.keep) (.slice x.D s.dead.length x.d) (.bool s.same)).alloc (.cells #[.int .i64 a, .int .i64 b, .int .i64 c, .int .i64 d, .int .i64 e, .int .i64 dep, .int .i64 many] 42)
  have t0 := B7.new (w.alloc (.cells #[.slice x.A s.rows.length x.a, .slice x.R s.sp.refs.length x.r, .slice x.L s.sp.last.length x.l, .int .i64 s.txg, .slice x.G s.gone.length x.g, .int .i64 s.keep, .slice x.D s.dead.length x.d, .bool s.same] 38)) a b c d e dep many 42
  have BB : Below w.heap.size w ((w.alloc (.cells #[.slice x.A s.rows.length x.a, .slice x.R s.sp.refs.length x.r, .slice x.L s.sp.last.length x.l, .int .i64 s.txg, .slice x.G s.gone.length x.g, .int .i64 s.keep, .slice x.D s.dead.length x.d, .bool s.same] 38)).alloc (.cells #[.int .i64 a, .int .i64 b, .int .i64 c, .int .i64 d, .int .i64 e, .int .i64 dep, .int .i64 many] 42)) := bel_new (bel_new (Below.refl _ _) _) _
  rw [World.size_alloc] at t0
  have hP := impl_plant x s a b c d e dep many _ hs (hA.below BB) (hE.at BB)
  have hAw := hA
  obtain ⟨G, hG⟩ : ∃ G, G = getT s ⟨⟨a, b, c, d, e⟩, dep, many⟩ k := ⟨_, rfl⟩
  have hno := @getT_no s ⟨⟨a, b, c, d, e⟩, dep, many⟩ k
  have hyes := @getT_yes s ⟨⟨a, b, c, d, e⟩, dep, many⟩ k
  rw [← hG] at hno hyes ⊢
  obtain ⟨O, hO⟩ : ∃ O, O = plantO s ⟨⟨a, b, c, d, e⟩, dep, many⟩ := ⟨_, rfl⟩
  rw [← hO] at hP
  go_enter Tryz.func23, Tryz.ntmps23
  go_upto_region 1 with fail
  generalize hW0 : (w.alloc (.cells #[.slice x.A s.rows.length x.a, .slice x.R s.sp.refs.length x.r, .slice x.L s.sp.last.length x.l, .int .i64 s.txg, .slice x.G s.gone.length x.g, .int .i64 s.keep, .slice x.D s.dead.length x.d, .bool s.same] 38)).alloc (.cells #[.int .i64 a, .int .i64 b, .int .i64 c, .int .i64 d, .int .i64 e, .int .i64 dep, .int .i64 many] 42) = W0 at c0 t0 BB hP
  clear hW0 hE hG hA
  obtain ⟨x0, x1, x2, x3, x4, x5, x6, x7⟩ := c0.cells
  obtain ⟨y0, y1, y2, y3, y4, y5, y6⟩ := t0.cells
  cases O with
  | none =>
    have hP2 : Calls Tryz.prog 46 #[.agg #[.slice x.A s.rows.length x.a, .slice x.R s.sp.refs.length x.r, .slice x.L s.sp.last.length x.l, .int .i64 s.txg, .slice x.G s.gone.length x.g, .int .i64 s.keep, .slice x.D s.dead.length x.d, .bool s.same], .agg #[.int .i64 a, .int .i64 b, .int .i64 c, .int .i64 d, .int .i64 e, .int .i64 dep, .int .i64 many]] W0 fun r w' => r = .returned (.tuple #[.agg #[.pointer none, .int .i64 0], .bool false]) ∧ Below W0.heap.size W0 w' := hP.mono fun r w' h => ⟨h.2, h.1⟩
    have HN := Lib.hid (hno (fun h => plant_none hO.symm h.1))
    clear hP hno hyes hO
    go_wp2_with (go_at_call 46; refine hP2.mono ?_; rintro r w2 ⟨rfl, hb2⟩)
    go_ret2
    rw [HN.out]
    exact ⟨rfl, bel_new (bel_then BB hb2) _⟩
  | some L =>
    have hP2 : Calls Tryz.prog 46 #[.agg #[.slice x.A s.rows.length x.a, .slice x.R s.sp.refs.length x.r, .slice x.L s.sp.last.length x.l, .int .i64 s.txg, .slice x.G s.gone.length x.g, .int .i64 s.keep, .slice x.D s.dead.length x.d, .bool s.same], .agg #[.int .i64 a, .int .i64 b, .int .i64 c, .int .i64 d, .int .i64 e, .int .i64 dep, .int .i64 many]] W0 fun r w' => ∃ g gs, r = .returned (.tuple #[.agg #[.pointer (some ⟨g, 0, none⟩), .int .i64 many], .bool true]) ∧ Below W0.heap.size W0 w' ∧ TrAt w' (fun k => W0.heap.size ≤ k) (depthOf many) g L gs := hP.mono fun r w' h => by obtain ⟨h1, g, gs, h2, h3⟩ := h; exact ⟨g, gs, h2, h1, h3⟩
    obtain ⟨hk1, hk2, hlv⟩ := plant_leaves hO.symm
    have hf := (okT_parts hk2).1
    have hok : StOk s := of_decide_eq_true hk1
    obtain ⟨⟨hm0, hm1⟩, -, -⟩ := hf
    simp only at hm0 hm1
    have hpl := fun n => place_ok (n := n) hk2
    have hpe : ∀ n, placeT s ⟨⟨a, b, c, d, e⟩, dep, many⟩ n = (pad (lv L)).getD n P5.zero := fun n => by unfold placeT; rw [hlv, Option.getD_some, pad_getD]
    clear hP hO hlv
    go_upto_region 2 with (go_at_call 46; refine hP2.mono ?_; rintro r w2 ⟨g, gs, rfl, hb2, hT⟩)
    have h16 : (lv L).length ≤ 16 := by
      rw [hT.places]
      have := depthOf_le many
      rcases (show depthOf many = 0 ∨ depthOf many = 1 ∨ depthOf many = 2 by omega) with h | h | h <;> rw [h] <;> decide
    have hn : gs.length ≤ 1000 := by
      have h1 := hT.few
      have := depthOf_le many
      have h2 : 5 ^ depthOf many ≤ 25 := by rcases (show depthOf many = 0 ∨ depthOf many = 1 ∨ depthOf many = 2 by omega) with h | h | h <;> rw [h] <;> decide
      omega
    have B23 := (Below.refl w2.heap.size w2).alloc (Nat.le_refl _) (.cells #[.pointer (some ⟨g, 0, none⟩), .int .i64 many] 74)
    have b3 := Go.Proofs.YtjmfefaoenmppaaGreatDoor.B2.new w2 74 (.pointer (some ⟨g, 0, none⟩)) (.int .i64 many)
    generalize hW3 : w2.alloc (.cells #[.pointer (some ⟨g, 0, none⟩), .int .i64 many] 74) = w3 at B23 b3 ⊢
    clear hW3 x0 x1 x2 x3 x4 x5 x6 x7 y0 y1 y2 y3 y4 y5 y6 hP2 t0
    have c3 := (c0.below hb2).below B23
    have T3 := hT.below B23
    have B3 := bel_then (bel_then BB hb2) B23
    clear c0 hT hb2 B23 BB
    obtain ⟨⟨z0, z1⟩, -, -⟩ := b3.cells
    have hI := fun W => i_in k 0 (many - 1) W
    cases hin : inB k 0 (many - 1) with
    | false =>
      have HN := Lib.hid (hno (fun h => by have := inB_yes h.2; rw [hin] at this; cases this))
      rw [hin] at hI
      clear hno hyes hin hpl hpe
      go_wp2_with (go_at_call 56; refine (hI _).mono ?_; rintro r w4 ⟨rfl, rfl⟩)
      go_ret2
      rw [HN.out]
      exact ⟨rfl, B3⟩
    | true =>
      have hkr := inB_iff.1 hin
      rw [hin] at hI
      have HY := Lib.hid (hyes ⟨⟨hk1, hk2⟩, hkr⟩)
      obtain ⟨n, rfl⟩ : ∃ n : Nat, k = (n : Int) := ⟨k.toNat, by omega⟩
      have hn16 : n < 16 := by omega
      have hlp : n < (pad (lv L)).length := by rw [pad_len h16]; exact hn16
      obtain ⟨⟨pa, pb, pc, pd, pe⟩, hpj⟩ : ∃ r, (pad (lv L))[n] = r := ⟨_, rfl⟩
      have hgd : placeT s ⟨⟨a, b, c, d, e⟩, dep, many⟩ n = ⟨pa, pb, pc, pd, pe⟩ := by rw [hpe, List.getD_eq_getElem?_getD, List.getElem?_eq_getElem hlp, Option.getD_some, hpj]
      have hpo := (hpl n).1
      have hp2 := (hpl n).2
      rw [hgd] at hpo hp2
      have hIx := fun W => run_index80 W (pad (lv L)) (pad_len h16) n hn16 hpj
      have hLv := fun W (hW : Below w3.heap.size w3 W) => impl_leaves g many L gs W (T3.below hW).all h16 hn (fun W2 hW2 => impl_all _ _ g L gs W2 ((T3.below hW).below hW2) hn)
      have hR := fun W (hW : Below w3.heap.size w3 W) => impl_mread x s pa pb pc pd pe W hok hs.texts (hAw.below (bel_then B3 hW)) hpo
      have HG : Hid (G = readC s ⟨pa, pb, pc, pd, pe⟩) := Lib.hid (by
        rw [HY.out, Int.toNat_natCast, hgd]
        exact Prod.ext rfl hp2.symm)
      obtain ⟨cs, hcs⟩ : ∃ cs, cs = flat (pad (lv L)) := ⟨_, rfl⟩
      rw [← hcs] at hIx
      have hLv2 : ∀ W, Below w3.heap.size w3 W → Calls Tryz.prog 50 #[.agg #[.pointer (some ⟨g, 0, none⟩), .int .i64 many]] W fun r w' => r = .returned (.agg cs.toArray) ∧ Below W.heap.size W w' := by rw [hcs]; exact hLv
      obtain ⟨Rq, hRq⟩ : ∃ Rq, Rq = readC s ⟨pa, pb, pc, pd, pe⟩ := ⟨_, rfl⟩
      rw [← hRq] at HG hR
      have c3D := c3.drew
      have b3D := b3.drew
      clear hno hyes hin hpl hpe hkr HY hgd hpo hp2 hpj hlp hLv hcs hRq hok hk1 hk2 hs hAw T3 hn h16
      go_upto_region 4 with (go_at_call 56; refine (hI _).mono ?_; rintro r w4 ⟨rfl, rfl⟩)
      clear z0 z1 hI
      obtain ⟨x0, x1, x2, x3, x4, x5, x6, x7⟩ := c3D.cells
      obtain ⟨⟨z0, z1⟩, -, -⟩ := b3D.cells
      have Dr := (Below.refl w3.heap.size w3).drew
      first
        | go_region_with (first
          | (go_at_call 50; refine (hLv2 _ Dr).mono ?_; rintro r w5 ⟨rfl, hb5⟩; obtain ⟨x0, x1, x2, x3, x4, x5, x6, x7⟩ := (c3D.below hb5).cells)
          | (go_at_call 57; refine (hR _ (bel_then Dr hb5)).mono ?_; rintro r w6 ⟨rfl, hb6⟩))
        | fail "region"
      all_goals go_wp2_with fail
      all_goals go_ret2
      all_goals exact ⟨by rw [HG.out]; rfl, bel_then (bel_then B3 (bel_then Dr hb5)) hb6⟩
end Go.Proofs.YtjmfefaoenmppaaGreatDoor
