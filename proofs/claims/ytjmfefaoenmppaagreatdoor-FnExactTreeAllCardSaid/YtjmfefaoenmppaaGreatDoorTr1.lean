/-
  All pointers of a tree, as the program tells them.
-/
import Derived.Test.YtjmfefaoenmppaaGreatDoorTq
namespace Go.Proofs.YtjmfefaoenmppaaGreatDoor
open Go.RowKit

def QQ (W : World) (g : Nat) (a b c d e : Int) : Prop := W.heap[g]? = some (.cells #[.int .i64 a, .int .i64 b, .int .i64 c, .int .i64 d, .int .i64 e] 40 (0, 0))
theorem QQ.lies {W : World} {g : Nat} {a b c d e : Int} (h : QQ W g a b c d e) : Lies W (some ⟨g, 0, none⟩) (P5.cells ⟨a, b, c, d, e⟩) := fun _ => ⟨g, 0, rfl, (Array.getElem?_eq_some_iff.1 h).1, fun j v hj => by
  have h' : W.heap[g]? = some (.cells #[.int .i64 a, .int .i64 b, .int .i64 c, .int .i64 d, .int .i64 e] 40 (0, 0)) := h
  rw [Nat.zero_add]
  simp only [World.cell?, h']
  rw [← hj]
  simp [P5.cells]⟩
theorem nh_next (L : Br) (j : Nat) (h : j < L.length) : nh (L.take (j + 1)) = nh (L.take j) ++ (if L[j].1.hole = true then [] else [L[j].1]) := by
  rw [List.take_succ_eq_append_getElem h, nh_append]
  congr 1
  obtain ⟨p, l⟩ := L[j]
  rw [nh_cons]
  exact List.append_nil _
theorem nh_le (L : Br) : (nh L).length ≤ L.length := by
  unfold nh
  have := List.length_filter_le (fun p : P5 => !p.hole) (L.map (·.1))
  rw [List.length_map] at this
  exact this
theorem flat_snoc' (L : List P5) (p : P5) : flat (L ++ [p]) = flat L ++ P5.cells p := by simp [flat]
theorem nh_part (L : Br) (j : Nat) : (nh (L.take j)).length ≤ L.length := by
  have := nh_le (L.take j)
  rw [List.length_take] at this
  omega

set_option maxRecDepth 100000 in
set_option maxHeartbeats 8000000 in
theorem impl_treeall (x : SA) (s : St) (a b c d e dep many : Int) (w : World) (hs : SBulk s) (hA : StAt w x s) (hE : Fx.Env w) :
    Calls Tryz.prog 31 #[.agg #[.slice x.A s.rows.length x.a, .slice x.R s.sp.refs.length x.r, .slice x.L s.sp.last.length x.l, .int .i64 s.txg, .slice x.G s.gone.length x.g, .int .i64 s.keep, .slice x.D s.dead.length x.d, .bool s.same], .agg #[.int .i64 a, .int .i64 b, .int .i64 c, .int .i64 d, .int .i64 e, .int .i64 dep, .int .i64 many]] w (LsPost (allO s ⟨⟨a, b, c, d, e⟩, dep, many⟩) 40 w) := by
  obtain ⟨i0, hi, hz0, hz1, hz2⟩ := info_parts Tryz.info40
  have c0 := (B8.new w 38 (.slice x.A s.rows.length x.a) (.slice x.R s.sp.refs.length x.r) (.slice x.L s.sp.last.length x.l) (.int .i64 s.txg) (.slice x.G s.gone.length x.g) (.int .i64 s.keep) (.slice x.D s.dead.length x.d) (.bool s.same)).alloc (.cells #[.int .i64 a, .int .i64 b, .int .i64 c, .int .i64 d, .int .i64 e, .int .i64 dep, .int .i64 many] 42)
  have t0 := B7.new (w.alloc (.cells #[.slice x.A s.rows.length x.a, .slice x.R s.sp.refs.length x.r, .slice x.L s.sp.last.length x.l, .int .i64 s.txg, .slice x.G s.gone.length x.g, .int .i64 s.keep, .slice x.D s.dead.length x.d, .bool s.same] 38)) a b c d e dep many 42
  have BB : Below w.heap.size w ((w.alloc (.cells #[.slice x.A s.rows.length x.a, .slice x.R s.sp.refs.length x.r, .slice x.L s.sp.last.length x.l, .int .i64 s.txg, .slice x.G s.gone.length x.g, .int .i64 s.keep, .slice x.D s.dead.length x.d, .bool s.same] 38)).alloc (.cells #[.int .i64 a, .int .i64 b, .int .i64 c, .int .i64 d, .int .i64 e, .int .i64 dep, .int .i64 many] 42)) := bel_new (bel_new (Below.refl _ _) _) _
  rw [World.size_alloc] at t0
  have hP := impl_plant x s a b c d e dep many _ hs (hA.below BB) (hE.at BB)
  unfold allO
  obtain ⟨O, hO⟩ : ∃ O, O = plantO s ⟨⟨a, b, c, d, e⟩, dep, many⟩ := ⟨_, rfl⟩
  rw [← hO] at hP ⊢
  go_enter Tryz.func31, Tryz.ntmps31
  go_upto_region 1 with fail
  generalize hW0 : (w.alloc (.cells #[.slice x.A s.rows.length x.a, .slice x.R s.sp.refs.length x.r, .slice x.L s.sp.last.length x.l, .int .i64 s.txg, .slice x.G s.gone.length x.g, .int .i64 s.keep, .slice x.D s.dead.length x.d, .bool s.same] 38)).alloc (.cells #[.int .i64 a, .int .i64 b, .int .i64 c, .int .i64 d, .int .i64 e, .int .i64 dep, .int .i64 many] 42) = W0 at c0 t0 BB hP
  clear hW0 hE hA hs hO
  obtain ⟨x0, x1, x2, x3, x4, x5, x6, x7⟩ := c0.cells
  obtain ⟨y0, y1, y2, y3, y4, y5, y6⟩ := t0.cells
  cases O with
  | none =>
    have hP2 : Calls Tryz.prog 46 #[.agg #[.slice x.A s.rows.length x.a, .slice x.R s.sp.refs.length x.r, .slice x.L s.sp.last.length x.l, .int .i64 s.txg, .slice x.G s.gone.length x.g, .int .i64 s.keep, .slice x.D s.dead.length x.d, .bool s.same], .agg #[.int .i64 a, .int .i64 b, .int .i64 c, .int .i64 d, .int .i64 e, .int .i64 dep, .int .i64 many]] W0 fun r w' => r = .returned (.tuple #[.agg #[.pointer none, .int .i64 0], .bool false]) ∧ Below W0.heap.size W0 w' := hP.mono fun r w' h => ⟨h.2, h.1⟩
    clear hP
    go_wp2_with (go_at_call 46; refine hP2.mono ?_; rintro r w2 ⟨rfl, hb2⟩)
    go_ret2
    exact ⟨bel_new (bel_then BB hb2) _, none, 0, rfl, World.ownsRow_nil _ _ _ _⟩
  | some L =>
    have hP2 : Calls Tryz.prog 46 #[.agg #[.slice x.A s.rows.length x.a, .slice x.R s.sp.refs.length x.r, .slice x.L s.sp.last.length x.l, .int .i64 s.txg, .slice x.G s.gone.length x.g, .int .i64 s.keep, .slice x.D s.dead.length x.d, .bool s.same], .agg #[.int .i64 a, .int .i64 b, .int .i64 c, .int .i64 d, .int .i64 e, .int .i64 dep, .int .i64 many]] W0 fun r w' => ∃ g gs, r = .returned (.tuple #[.agg #[.pointer (some ⟨g, 0, none⟩), .int .i64 many], .bool true]) ∧ Below W0.heap.size W0 w' ∧ TrAt w' (fun k => W0.heap.size ≤ k) (depthOf many) g L gs := hP.mono fun r w' h => by obtain ⟨h1, g, gs, h2, h3⟩ := h; exact ⟨g, gs, h2, h1, h3⟩
    clear hP
    go_upto_region 2 with (go_at_call 46; refine hP2.mono ?_; rintro r w2 ⟨g, gs, rfl, hb2, hT⟩)
    have hn : gs.length ≤ 25 := by
      have h1 := hT.few
      have := depthOf_le many
      have h2 : 5 ^ depthOf many ≤ 25 := by rcases (show depthOf many = 0 ∨ depthOf many = 1 ∨ depthOf many = 2 by omega) with h | h | h <;> rw [h] <;> decide
      omega
    have B23 := (Below.refl w2.heap.size w2).alloc (Nat.le_refl _) (.cells #[.pointer (some ⟨g, 0, none⟩), .int .i64 many] 74)
    have b3 := Go.Proofs.YtjmfefaoenmppaaGreatDoor.B2.new w2 74 (.pointer (some ⟨g, 0, none⟩)) (.int .i64 many)
    generalize hW3 : w2.alloc (.cells #[.pointer (some ⟨g, 0, none⟩), .int .i64 many] 74) = w3 at B23 b3 ⊢
    clear hW3 x0 x1 x2 x3 x4 x5 x6 x7 y0 y1 y2 y3 y4 y5 y6 hP2 t0 c0
    have T3 := hT.below B23
    have B3 := bel_then (bel_then BB hb2) B23
    clear hT hb2 B23 BB
    have o1 := World.ownsRow_made (e := 40) (base := w3.heap.size) w3 (size := 5) #[] 0 (Nat.le_refl _) (by decide) rfl
    have Bn := bel_new (Below.refl w3.heap.size w3) (.cells #[] 40)
    have b4 := b3.below Bn
    have hAl := impl_all _ _ g L gs (w3.alloc (.cells #[] 40)) (T3.below Bn) (by omega)
    unfold ptrV at hAl
    have hA3 := T3.all
    obtain ⟨⟨z0, z1⟩, -, -⟩ := b4.cells
    go_upto_region 5 with fail
    generalize hW4 : w3.alloc (.cells #[] 40) = w4 at o1 Bn b4 hAl z0 z1 ⊢
    have s34 : w3.heap.size < w4.heap.size := by rw [← hW4, World.size_alloc]; exact Nat.lt_succ_self _
    clear hW4 T3 b3
    go_wp2_with (go_at_call 67; refine hAl.mono ?_; rintro r w5 ⟨A2, ca, rfl, gv, hb5⟩; refine Hid.out ?_)
    refine Lib.hid ?_
    have o5 := own_bel o1 hb5
    have B5 := bel_then Bn hb5
    have hne0 : ∀ k, (Value.slice A2 gs.length ca).ownBlock = some k → (Value.slice (some ⟨w3.heap.size, 0, none⟩) 0 0).ownBlock ≠ some k := fun k hk e => by
      have := (gv.lt k hk).1
      injection e with e
      simp only at e
      omega
    clear hAl o1 Bn b4 z0 z1 hb5
    go_wp2_with fail
    go_loopg [8, 10, 24] gs.length (fun gh v _ i wr => ∃ (j g2 c2 m : Nat), gh = gs.length - j ∧ j ≤ gs.length ∧ i = .int .i64 j ∧ m = (nh (L.take j)).length ∧ v = .slice (some ⟨g2, 0, none⟩) m c2 ∧ wr.ownsRow w3.heap.size 40 5 (.slice (some ⟨g2, 0, none⟩) m c2) m (flat (nh (L.take j))) ∧ Below w3.heap.size w3 wr ∧ wr.ownsRow w4.heap.size 72 1 (.slice A2 gs.length ca) gs.length (ptrVs gs) ∧ (∀ k, (Value.slice A2 gs.length ca).ownBlock = some k → (Value.slice (some ⟨g2, 0, none⟩) m c2).ownBlock ≠ some k))
    case atStart => exact ⟨0, w3.heap.size, 0, 0, by omega, by omega, rfl, rfl, rfl, o5, B5, gv, hne0⟩
    case round =>
      clear o5 B5 gv hne0
      obtain ⟨j, g2, c2, m, hgh, hj, rfl, hm, rfl, ho, hb, hg, hne⟩ := hrel
      have HG := Lib.hid hgh
      clear hgh
      have hAA := hA3.below hb
      by_cases hlt : j < gs.length
      · have hlt' : (j : Int) < (gs.length : Int) := by omega
        have hltL : j < L.length := by rw [← hAA.1]; exact hlt
        obtain ⟨A3, c3, e3, hL⟩ := own_lies hg
        injection e3 with eA en ec
        subst eA
        subst ec
        clear en
        obtain ⟨bk, off, rfl, hlb, hck⟩ := Kids.lies hL j hlt
        obtain ⟨An, nn, cn, hN⟩ := hAA.2 j hlt hltL
        have hnx := nh_next L j hltL
        have hml := nh_part L (j + 1)
        obtain ⟨h, hh⟩ : ∃ h, h = gs[j] := ⟨_, rfl⟩
        obtain ⟨⟨⟨pa, pb, pc, pd, pe⟩, lev⟩, hx⟩ : ∃ x, x = L[j] := ⟨_, rfl⟩
        rw [← hh] at hck hN
        rw [← hx] at hN hnx
        simp only at hN hnx
        unfold ptrV at hck
        obtain ⟨y0, y1, y2, y3, y4, y5, y6⟩ := hN.cells
        simp only at y0 y1 y2 y3 y4
        have hM := fun W => m_hole pa pb pc pd pe W
        obtain ⟨z, hz⟩ : ∃ z, z = isHole pa pb pc pd pe := ⟨_, rfl⟩
        rw [← hz] at hM
        have hL25 : L.length ≤ 25 := by rw [← hAA.1]; exact hn
        cases z with
        | true =>
          rw [if_pos (show P5.hole ⟨pa, pb, pc, pd, pe⟩ = true from hz.symm), List.append_nil] at hnx
          have HN := Lib.hid hnx
          have HM := Lib.hid hm
          clear hnx hh hx hz hm hAA hL hN
          go_wp2_with (go_at_call 68; refine (hM _).mono ?_; rintro r w6 ⟨rfl, rfl⟩)
          have bn := bel_new (Below.refl wr.heap.size wr) (.cells #[.int .i64 pa, .int .i64 pb, .int .i64 pc, .int .i64 pd, .int .i64 pe] 40)
          go_roundg (gs.length - (j + 1))
          case measure => have := HG.out; omega
          case rel => exact ⟨j + 1, g2, c2, m, rfl, by omega, by go_num, by rw [HN.out]; exact HM.out, rfl, by rw [HN.out]; exact own_bel ho bn, bel_then hb bn, own_bel hg bn, hne⟩
        | false =>
          have hh0 : P5.hole ⟨pa, pb, pc, pd, pe⟩ = false := hz.symm
          rw [if_neg (by rw [hh0]; decide)] at hnx
          have HN := Lib.hid hnx
          have HM : Hid (m = (nh (L.take j)).length ∧ m + 1 ≤ 25) := Lib.hid ⟨hm, by rw [hnx, List.length_append] at hml; simp only [List.length_singleton] at hml; omega⟩
          have bn := bel_new (Below.refl wr.heap.size wr) (.cells #[.int .i64 pa, .int .i64 pb, .int .i64 pc, .int .i64 pd, .int .i64 pe] 40)
          have N7 := hN.below bn
          obtain ⟨u0, u1, u2, u3, u4, u5, u6⟩ := N7.cells
          simp only at u0 u1 u2 u3 u4
          have bn2 := bel_new bn (.cells #[.int .i64 pa, .int .i64 pb, .int .i64 pc, .int .i64 pd, .int .i64 pe] 40)
          have o7 := own_bel ho bn2
          have g7 := own_bel hg bn2
          have hL8 : Lies ((wr.alloc (.cells #[.int .i64 pa, .int .i64 pb, .int .i64 pc, .int .i64 pd, .int .i64 pe] 40)).alloc (.cells #[.int .i64 pa, .int .i64 pb, .int .i64 pc, .int .i64 pd, .int .i64 pe] 40)) (some ⟨wr.heap.size + 1, 0, none⟩) (P5.cells ⟨pa, pb, pc, pd, pe⟩) := by
            have q : QQ _ _ pa pb pc pd pe := heap_alloc_new (wr.alloc (.cells #[.int .i64 pa, .int .i64 pb, .int .i64 pc, .int .i64 pd, .int .i64 pe] 40)) (.cells #[.int .i64 pa, .int .i64 pb, .int .i64 pc, .int .i64 pd, .int .i64 pe] 40)
            rw [World.size_alloc] at q
            exact q.lies
          have s7 := bn2.size
          have sb := hb.size
          have hs7 : w3.heap.size ≤ ((wr.alloc (.cells #[.int .i64 pa, .int .i64 pb, .int .i64 pc, .int .i64 pd, .int .i64 pe] 40)).alloc (.cells #[.int .i64 pa, .int .i64 pb, .int .i64 pc, .int .i64 pd, .int .i64 pe] 40)).heap.size := by omega
          clear hnx hh hx hz hm hAA hL hN N7 hh0 hml
          go_wp2_with (first | (go_at_call 68; refine (hM _).mono ?_; rintro r w6 ⟨rfl, rfl⟩) | (at_builtin; refine wpList_append_five _ rfl _ _ 36 rfl w3.heap.size 40 i0 (.agg #[.int .i64 0, .int .i64 0, .int .i64 0, .int .i64 0, .int .i64 0]) 5 40 Tryz.underlying36 hi hz0 hz1 hz2 rfl (by decide) _ _ _ rfl o7 (some ⟨wr.heap.size + 1, 0, none⟩) 1 1 (P5.cells ⟨pa, pb, pc, pd, pe⟩) (by decide) rfl rfl hL8 (by simp [P5.cells, Value.oneCell']) (by have := HM.out; unfold maxLen; omega) (by have := HM.out; omega) hs7 ?_))
          intro v' w8 hown hgrow hat
          have R : w8.ownsRow w3.heap.size 40 5 v' (m + 1) (flat (nh (L.take (j + 1)))) := by rw [HN.out, flat_snoc']; exact hown
          have B8w := Fx.bel_row5 (bel_then hb bn2) o7 (Nat.le_refl _) hgrow
          have g8 : w8.ownsRow w4.heap.size 72 1 (.slice (some ⟨bk, off, none⟩) gs.length ca) gs.length (ptrVs gs) := g7.kept hgrow (by
            cases hc : (Value.slice (some ⟨bk, off, none⟩) gs.length ca).ownBlock with
            | none => exact .inl rfl
            | some k => exact .inr (fun e => hne k hc e.symm))
          have hne8 : ∀ k, (Value.slice (some ⟨bk, off, none⟩) gs.length ca).ownBlock = some k → v'.ownBlock ≠ some k := fun k hk e => by
            rcases hat with h1 | h1
            · exact hne k hk (h1.symm.trans e)
            · rw [h1] at e
              injection e with e
              have := (hg.lt k hk).2
              rw [← e] at this
              omega
          obtain ⟨g9, c9, rfl⟩ := Fx.own_form5 R (by omega)
          clear hown hgrow hat o7 g7 hL8 u0 u1 u2 u3 u4 u5 u6 y0 y1 y2 y3 y4 y5 y6 ho hg hb bn bn2
          go_wp2_with fail
          go_roundg (gs.length - (j + 1))
          case measure => have := HG.out; omega
          case rel => exact ⟨j + 1, g9, c9, m + 1, rfl, by omega, by go_num, by rw [HN.out, List.length_append, ← HM.out.1]; rfl, rfl, R, B8w, g8, hne8⟩
      · obtain rfl : j = gs.length := by omega
        have e : L.take gs.length = L := by rw [hAA.1]; exact List.take_length
        rw [e] at ho hm
        have HF : Hid (LsPost (Option.map nh (some L)) 40 w (.returned (.tuple #[.slice (some ⟨g2, 0, none⟩) m c2, .bool true])) wr) := Lib.hid ⟨bel_then B3 hb, some ⟨g2, 0, none⟩, c2, by rw [hm]; rfl, by rw [hm] at ho; exact own_base ho B3.size⟩
        clear ho hm e hg hne hAA
        go_wp2_with fail
        go_ret2
        exact HF.out
end Go.Proofs.YtjmfefaoenmppaaGreatDoor
