/-
  A tree as branches, as the program reads it from a store: none, if the store or the tree in it is not valid.
-/
import Derived.Test.YtjmfefaoenmppaaGreatDoorKJ
import Derived.Test.YtjmfefaoenmppaaGreatDoorKG
namespace Go.Proofs.YtjmfefaoenmppaaGreatDoor
open Go.RowKit

set_option maxRecDepth 100000 in
set_option maxHeartbeats 8000000 in
theorem impl_plant (x : SA) (s : St) (a b c d e dep many : Int) (w : World) (hs : SBulk s) (hA : StAt w x s) (hE : Fx.Env w) :
    Calls Tryz.prog 46 #[.agg #[.slice x.A s.rows.length x.a, .slice x.R s.sp.refs.length x.r, .slice x.L s.sp.last.length x.l, .int .i64 s.txg, .slice x.G s.gone.length x.g, .int .i64 s.keep, .slice x.D s.dead.length x.d, .bool s.same], .agg #[.int .i64 a, .int .i64 b, .int .i64 c, .int .i64 d, .int .i64 e, .int .i64 dep, .int .i64 many]] w (PlPost (plantO s ⟨⟨a, b, c, d, e⟩, dep, many⟩) many w) := by
  have c0 := ((B8.new w 38 (.slice x.A s.rows.length x.a) (.slice x.R s.sp.refs.length x.r) (.slice x.L s.sp.last.length x.l) (.int .i64 s.txg) (.slice x.G s.gone.length x.g) (.int .i64 s.keep) (.slice x.D s.dead.length x.d) (.bool s.same)).alloc (.cells #[.int .i64 a, .int .i64 b, .int .i64 c, .int .i64 d, .int .i64 e, .int .i64 dep, .int .i64 many] 42)).alloc (.cells #[.pointer none, .int .i64 0] 74)
  have t0 := (B7.new (w.alloc (.cells #[.slice x.A s.rows.length x.a, .slice x.R s.sp.refs.length x.r, .slice x.L s.sp.last.length x.l, .int .i64 s.txg, .slice x.G s.gone.length x.g, .int .i64 s.keep, .slice x.D s.dead.length x.d, .bool s.same] 38)) a b c d e dep many 42).below (bel_new (Below.refl _ _) (.cells #[.pointer none, .int .i64 0] 74))
  have p0 := B2.new ((w.alloc (.cells #[.slice x.A s.rows.length x.a, .slice x.R s.sp.refs.length x.r, .slice x.L s.sp.last.length x.l, .int .i64 s.txg, .slice x.G s.gone.length x.g, .int .i64 s.keep, .slice x.D s.dead.length x.d, .bool s.same] 38)).alloc (.cells #[.int .i64 a, .int .i64 b, .int .i64 c, .int .i64 d, .int .i64 e, .int .i64 dep, .int .i64 many] 42)) 74 (.pointer none) (.int .i64 0)
  have BB : Below w.heap.size w (((w.alloc (.cells #[.slice x.A s.rows.length x.a, .slice x.R s.sp.refs.length x.r, .slice x.L s.sp.last.length x.l, .int .i64 s.txg, .slice x.G s.gone.length x.g, .int .i64 s.keep, .slice x.D s.dead.length x.d, .bool s.same] 38)).alloc (.cells #[.int .i64 a, .int .i64 b, .int .i64 c, .int .i64 d, .int .i64 e, .int .i64 dep, .int .i64 many] 42)).alloc (.cells #[.pointer none, .int .i64 0] 74)) := bel_new (bel_new (bel_new (Below.refl _ _) _) _) _
  rw [World.size_alloc] at t0
  rw [World.size_alloc, World.size_alloc] at p0
  have s0 : (((w.alloc (.cells #[.slice x.A s.rows.length x.a, .slice x.R s.sp.refs.length x.r, .slice x.L s.sp.last.length x.l, .int .i64 s.txg, .slice x.G s.gone.length x.g, .int .i64 s.keep, .slice x.D s.dead.length x.d, .bool s.same] 38)).alloc (.cells #[.int .i64 a, .int .i64 b, .int .i64 c, .int .i64 d, .int .i64 e, .int .i64 dep, .int .i64 many] 42)).alloc (.cells #[.pointer none, .int .i64 0] 74)).heap.size = w.heap.size + 1 + 1 + 1 := by rw [World.size_alloc, World.size_alloc, World.size_alloc]
  have hK := impl_mok x s (((w.alloc (.cells #[.slice x.A s.rows.length x.a, .slice x.R s.sp.refs.length x.r, .slice x.L s.sp.last.length x.l, .int .i64 s.txg, .slice x.G s.gone.length x.g, .int .i64 s.keep, .slice x.D s.dead.length x.d, .bool s.same] 38)).alloc (.cells #[.int .i64 a, .int .i64 b, .int .i64 c, .int .i64 d, .int .i64 e, .int .i64 dep, .int .i64 many] 42)).alloc (.cells #[.pointer none, .int .i64 0] 74)).drew hs (hA.below BB.drew)
  have hI := fun W => i_in many 0 16 W
  have hP := fun W => m_ok a b c d e W
  have hAw := hA
  have hEw := hE
  go_enter Tryz.func46, Tryz.ntmps46
  go_upto_region 1 with fail
  generalize hW0 : ((w.alloc (.cells #[.slice x.A s.rows.length x.a, .slice x.R s.sp.refs.length x.r, .slice x.L s.sp.last.length x.l, .int .i64 s.txg, .slice x.G s.gone.length x.g, .int .i64 s.keep, .slice x.D s.dead.length x.d, .bool s.same] 38)).alloc (.cells #[.int .i64 a, .int .i64 b, .int .i64 c, .int .i64 d, .int .i64 e, .int .i64 dep, .int .i64 many] 42)).alloc (.cells #[.pointer none, .int .i64 0] 74) = W0 at c0 t0 p0 BB hK s0
  clear hW0 hA hE
  have c1 : B8 W0.drew w.heap.size 38 (.slice x.A s.rows.length x.a) (.slice x.R s.sp.refs.length x.r) (.slice x.L s.sp.last.length x.l) (.int .i64 s.txg) (.slice x.G s.gone.length x.g) (.int .i64 s.keep) (.slice x.D s.dead.length x.d) (.bool s.same) := c0
  have t1 : B7 W0.drew (w.heap.size + 1) a b c d e dep many 42 := t0
  obtain ⟨x0, x1, x2, x3, x4, x5, x6, x7⟩ := c1.cells
  obtain ⟨y0, y1, y2, y3, y4, y5, y6⟩ := t1.cells
  obtain ⟨V, hV⟩ : ∃ V, V = !(okSt s && decide (formT ⟨⟨a, b, c, d, e⟩, dep, many⟩)) := ⟨_, rfl⟩
  go_cut [34] (fun v wx => v = .bool V ∧ Below W0.heap.size W0 wx)
  case first =>
    clear c0 t0 p0 BB s0 hs hAw hEw c1
    cases hk : okSt s with
    | false =>
      rw [hk] at hK
      have HV : Hid (V = true) := Lib.hid (by rw [hV, hk]; rfl)
      clear hV
      first
        | go_region_with (go_at_call 76; refine hK.mono ?_; rintro r w2 ⟨rfl, hb2⟩; have t2 := t1.below hb2; obtain ⟨y0, y1, y2, y3, y4, y5, y6⟩ := t2.cells)
        | fail "region"
      all_goals go_wp2_with fail
      all_goals go_meet
      all_goals exact ⟨by rw [HV.out], bel_then (Below.refl _ _).drew hb2⟩
    | true =>
      rw [hk] at hK
      cases hi : inB many 0 16 with
      | false =>
        have hf : ¬ formT ⟨⟨a, b, c, d, e⟩, dep, many⟩ := fun h => by have := inB_yes h.1; simp only at this; rw [hi] at this; cases this
        have HV : Hid (V = true) := Lib.hid (by rw [hV, decide_eq_false hf, Bool.and_false]; rfl)
        clear hV
        rw [hi] at hI
        first
          | go_region_with (first | (go_at_call 76; refine hK.mono ?_; rintro r w2 ⟨rfl, hb2⟩; have t2 := t1.below hb2; obtain ⟨y0, y1, y2, y3, y4, y5, y6⟩ := t2.cells) | (go_at_call 56; refine (hI _).mono ?_; rintro r w3 ⟨rfl, rfl⟩))
          | fail "region"
        all_goals go_wp2_with fail
        all_goals go_meet
        all_goals exact ⟨by rw [HV.out], bel_then (Below.refl _ _).drew hb2⟩
      | true =>
        have hin := inB_iff.1 hi
        have hD := fun W => impl_depth many hin W
        rw [hi] at hI
        by_cases hd : dep = (depthOf many : Int)
        · have hd2 : (dep != (depthOf many : Int)) = false := by rw [hd]; simp
          cases ho : isOk a b c d e with
          | false =>
            have hf : ¬ formT ⟨⟨a, b, c, d, e⟩, dep, many⟩ := fun h => by have : isOk a b c d e = true := h.2.2; rw [ho] at this; cases this
            have HV : Hid (V = true) := Lib.hid (by rw [hV, decide_eq_false hf, Bool.and_false]; rfl)
            rw [ho] at hP
            clear hf hd hV
            generalize (depthOf many : Int) = dd at hD hd2
            first
              | go_region_with (first | (go_at_call 76; refine hK.mono ?_; rintro r w2 ⟨rfl, hb2⟩; have t2 := t1.below hb2; obtain ⟨y0, y1, y2, y3, y4, y5, y6⟩ := t2.cells) | (go_at_call 56; refine (hI _).mono ?_; rintro r w3 ⟨rfl, rfl⟩) | (go_at_call 77; refine (hD _).mono ?_; rintro r w3 ⟨rfl, rfl⟩) | (go_at_call 78; refine (hP _).mono ?_; rintro r w3 ⟨rfl, rfl⟩))
              | fail "region"
            all_goals go_wp2_with fail
            all_goals go_meet
            all_goals exact ⟨by rw [HV.out], bel_new (bel_new (bel_then (Below.refl _ _).drew hb2) _) _⟩
          | true =>
            have hf : formT ⟨⟨a, b, c, d, e⟩, dep, many⟩ := ⟨hin, hd, ho⟩
            have HV : Hid (V = false) := Lib.hid (by rw [hV, decide_eq_true hf, hk]; rfl)
            rw [ho] at hP
            clear hf hd hV
            generalize (depthOf many : Int) = dd at hD hd2
            first
              | go_region_with (first | (go_at_call 76; refine hK.mono ?_; rintro r w2 ⟨rfl, hb2⟩; have t2 := t1.below hb2; obtain ⟨y0, y1, y2, y3, y4, y5, y6⟩ := t2.cells) | (go_at_call 56; refine (hI _).mono ?_; rintro r w3 ⟨rfl, rfl⟩) | (go_at_call 77; refine (hD _).mono ?_; rintro r w3 ⟨rfl, rfl⟩) | (go_at_call 78; refine (hP _).mono ?_; rintro r w3 ⟨rfl, rfl⟩))
              | fail "region"
            all_goals go_wp2_with fail
            all_goals go_meet
            all_goals exact ⟨by rw [HV.out], bel_new (bel_new (bel_then (Below.refl _ _).drew hb2) _) _⟩
        · have hd2 : (dep != (depthOf many : Int)) = true := by rw [bne_iff_ne]; exact hd
          have hf : ¬ formT ⟨⟨a, b, c, d, e⟩, dep, many⟩ := fun h => hd h.2.1
          have HV : Hid (V = true) := Lib.hid (by rw [hV, decide_eq_false hf, Bool.and_false]; rfl)
          clear hf hd hV
          generalize (depthOf many : Int) = dd at hD hd2
          first
            | go_region_with (first | (go_at_call 76; refine hK.mono ?_; rintro r w2 ⟨rfl, hb2⟩; have t2 := t1.below hb2; obtain ⟨y0, y1, y2, y3, y4, y5, y6⟩ := t2.cells) | (go_at_call 56; refine (hI _).mono ?_; rintro r w3 ⟨rfl, rfl⟩) | (go_at_call 77; refine (hD _).mono ?_; rintro r w3 ⟨rfl, rfl⟩))
            | fail "region"
          all_goals go_wp2_with fail
          all_goals go_meet
          all_goals exact ⟨by rw [HV.out], bel_then (Below.refl _ _).drew hb2⟩
  case rest =>
    obtain ⟨rfl, hb1⟩ := hcut
    obtain ⟨w1, ew1, hb1⟩ : ∃ W, W = _ ∧ Below W0.heap.size W0 W := ⟨_, rfl, hb1⟩
    subst ew1
    clear x0 x1 x2 x3 x4 x5 x6 x7 y0 y1 y2 y3 y4 y5 y6 hK hI hP c1 t1
    have p2 := p0.below hb1
    have B1 := bel_then BB hb1
    cases V with
    | true =>
      have hN : plantO s ⟨⟨a, b, c, d, e⟩, dep, many⟩ = none := plant_no (by
        cases hk : okSt s with
        | false => exact .inl rfl
        | true =>
          refine .inr fun hf => ?_
          rw [hk, decide_eq_true hf] at hV
          cases hV)
      obtain ⟨⟨q0, q1⟩, f0, f1⟩ := p2.cells
      have HN := Lib.hid hN
      have HB : Hid (Below w.heap.size w ((w1.setCell ⟨w.heap.size + 1 + 1, 0, none⟩ (.pointer none)).setCell ⟨w.heap.size + 1 + 1, 1, none⟩ (.int .i64 0))) := Lib.hid ((B1.setCell (p := ⟨w.heap.size + 1 + 1, 0, none⟩) (by simp only; omega) _).setCell (p := ⟨w.heap.size + 1 + 1, 1, none⟩) (by simp only; omega) _)
      have HP := Lib.hid ((p2.set0 (.pointer none)).set1 (.int .i64 0)).cells.1
      clear hV hN c0 t0 p0 p2
      go_wp2_with fail
      obtain ⟨r0, r1⟩ := HP.out
      exact bodyPost_ret (v := .tuple #[.agg #[.pointer none, .int .i64 0], .bool false]) (by rw [results_cell_tmp rfl]; simp [go_sem, r0, r1]) rfl ⟨HB.out, by rw [HN.out]⟩
    | false =>
      have hok2 : okSt s = true := by
        cases hk : okSt s with
        | true => rfl
        | false => rw [hk] at hV; cases hV
      have hf : formT ⟨⟨a, b, c, d, e⟩, dep, many⟩ := by
        by_cases h : formT ⟨⟨a, b, c, d, e⟩, dep, many⟩
        · exact h
        · rw [hok2, decide_eq_false h] at hV; cases hV
      have hok : StOk s := of_decide_eq_true hok2
      have hv : plantO s ⟨⟨a, b, c, d, e⟩, dep, many⟩ = (br s (depthOf many) ⟨a, b, c, d, e⟩ s.txg).bind fun L => if emptyFrom many (lv L) then some L else none := by
        unfold plantO plantT
        rw [if_pos hok2, if_pos hf]
      obtain ⟨hin, hdep, hrok⟩ := hf
      simp only at hin hdep hrok
      have c2 := c0.below hb1
      have t2 := t0.below hb1
      have hC := impl_branch x s hok hs.texts (depthOf many) (depthOf_le many) ⟨a, b, c, d, e⟩ s.txg w1 hrok (hAw.below B1) (hEw.at B1)
      have hd2 := depthOf_le many
      rw [← hdep] at hC
      obtain ⟨D, hD⟩ : ∃ D, D = depthOf many := ⟨_, rfl⟩
      have HPL : Hid (∀ (L : Br) (W' : World), PlPost (some L) many w = PlPost (some L) many w) := Lib.hid (fun _ _ => rfl)
      clear HPL
      obtain ⟨O, hO⟩ : ∃ O, O = br s (depthOf many) ⟨a, b, c, d, e⟩ s.txg := ⟨_, rfl⟩
      rw [← hO] at hC hv
      have HV := Lib.hid hv
      have s1 := hb1.size
      rw [s0] at s1
      obtain ⟨x0, x1, x2, x3, x4, x5, x6, x7⟩ := c2.cells
      obtain ⟨y0, y1, y2, y3, y4, y5, y6⟩ := t2.cells
      clear hV hok2 hv hb1 BB c0 t0 p0 hO hdep
      cases O with
      | none =>
        have hC2 : Calls Tryz.prog 79 #[.agg #[.slice x.A s.rows.length x.a, .slice x.R s.sp.refs.length x.r, .slice x.L s.sp.last.length x.l, .int .i64 s.txg, .slice x.G s.gone.length x.g, .int .i64 s.keep, .slice x.D s.dead.length x.d, .bool s.same], .agg #[.int .i64 a, .int .i64 b, .int .i64 c, .int .i64 d, .int .i64 e], .int .i64 dep, .int .i64 s.txg] w1 fun r w' => r = .returned (.tuple #[.pointer none, .bool false]) ∧ Below w1.heap.size w1 w' := hC.mono fun r w' h => ⟨h.2, h.1⟩
        clear hC hD D
        go_wp2_with (go_at_call 79; refine hC2.mono ?_; rintro r w2 ⟨rfl, hb2⟩; refine Hid.out ?_)
        refine Lib.hid ?_
        have p3 := p2.below hb2
        have B2 := bel_then B1 hb2
        obtain ⟨⟨q0, q1⟩, f0, f1⟩ := p3.cells
        have HB : Hid (Below w.heap.size w ((w2.setCell ⟨w.heap.size + 1 + 1, 0, none⟩ (.pointer none)).setCell ⟨w.heap.size + 1 + 1, 1, none⟩ (.int .i64 0))) := Lib.hid ((B2.setCell (p := ⟨w.heap.size + 1 + 1, 0, none⟩) (by simp only; omega) _).setCell (p := ⟨w.heap.size + 1 + 1, 1, none⟩) (by simp only; omega) _)
        have HP := Lib.hid ((p3.set0 (.pointer none)).set1 (.int .i64 0)).cells.1
        clear p2 p3 x0 x1 x2 x3 x4 x5 x6 x7 y0 y1 y2 y3 y4 y5 y6 c2 t2
        go_wp2_with fail
        obtain ⟨r0, r1⟩ := HP.out
        exact bodyPost_ret (v := .tuple #[.agg #[.pointer none, .int .i64 0], .bool false]) (by rw [results_cell_tmp rfl]; simp [go_sem, r0, r1]) rfl ⟨HB.out, by rw [HV.out]; rfl⟩
      | some L =>
        have hC2 : Calls Tryz.prog 79 #[.agg #[.slice x.A s.rows.length x.a, .slice x.R s.sp.refs.length x.r, .slice x.L s.sp.last.length x.l, .int .i64 s.txg, .slice x.G s.gone.length x.g, .int .i64 s.keep, .slice x.D s.dead.length x.d, .bool s.same], .agg #[.int .i64 a, .int .i64 b, .int .i64 c, .int .i64 d, .int .i64 e], .int .i64 dep, .int .i64 s.txg] w1 fun r w' => ∃ g gs, r = .returned (.tuple #[.pointer (some ⟨g, 0, none⟩), .bool true]) ∧ Below w1.heap.size w1 w' ∧ TrAt w' (fun k => w1.heap.size ≤ k) (depthOf many) g L gs := hC.mono fun r w' h => by obtain ⟨h1, g, gs, h2, h3⟩ := h; exact ⟨g, gs, h2, h1, h3⟩
        clear hC hD D
        go_wp2_with (go_at_call 79; refine hC2.mono ?_; rintro r w2 ⟨g, gs, rfl, hb2, hT⟩; refine Hid.out ?_)
        refine Lib.hid ?_
        have p3 := p2.below hb2
        have B2 := bel_then B1 hb2
        have t3 := t2.below hb2
        have s2 := hb2.size
        have h16 : (lv L).length ≤ 16 := by
          rw [hT.places]
          rcases (show depthOf many = 0 ∨ depthOf many = 1 ∨ depthOf many = 2 by omega) with h | h | h <;> rw [h] <;> decide
        have hn : gs.length ≤ 1000 := by
          have h1 := hT.few
          have h2 : 5 ^ depthOf many ≤ 25 := by rcases (show depthOf many = 0 ∨ depthOf many = 1 ∨ depthOf many = 2 by omega) with h | h | h <;> rw [h] <;> decide
          omega
        clear p2 c2 x0 x1 x2 x3 x4 x5 x6 x7 y0 y1 y2 y3 y4 y5 y6 hC2 t2 hb2 B1
        obtain ⟨y0, y1, y2, y3, y4, y5, y6⟩ := t3.cells
        go_upto_region 7 with fail
        obtain ⟨w3, hw3⟩ : ∃ W, W = w2.alloc (.cells #[.pointer (some ⟨g, 0, none⟩), .int .i64 many] 74) := ⟨_, rfl⟩
        have B23 : Below w2.heap.size w2 w3 := by rw [hw3]; exact bel_new (Below.refl _ _) _
        have b3 : Go.Proofs.YtjmfefaoenmppaaGreatDoor.B2 w3 w2.heap.size 74 (.pointer (some ⟨g, 0, none⟩)) (.int .i64 many) := by rw [hw3]; exact Go.Proofs.YtjmfefaoenmppaaGreatDoor.B2.new w2 74 _ _
        rw [← hw3]
        clear hw3 y0 y1 y2 y3 y4 y5 y6
        have T3 := hT.below B23
        have p4 := p3.below B23
        have B3 := bel_then B2 B23
        have s3 := B23.size
        have hLv := impl_leaves g many L gs w3 T3.all h16 hn (fun W hW => impl_all _ _ g L gs W (T3.below hW) hn)
        obtain ⟨⟨z0, z1⟩, -, -⟩ := b3.cells
        obtain ⟨cs, hcs⟩ : ∃ cs, cs = flat (pad (lv L)) := ⟨_, rfl⟩
        have hl : cs.length = 80 := by rw [hcs, flat_len, pad_len h16]
        have h1 : cs.toArray.all (·.oneCell') = true := by rw [hcs]; exact all_oneCell_toArray (flat_one _)
        have hLv2 : Calls Tryz.prog 50 #[.agg #[.pointer (some ⟨g, 0, none⟩), .int .i64 many]] w3 fun r w' => r = .returned (.agg cs.toArray) ∧ Below w3.heap.size w3 w' := by rw [hcs]; exact hLv
        have HI : Hid ((Tryz.prog.info? 80).map (·.size) = some cs.toArray.size) := Lib.hid (by show _ = some cs.length; rw [hl]; exact info80)
        have HL := Lib.hid hl
        have H1 := Lib.hid h1
        have HC := Lib.hid hcs
        clear hLv hcs hl h1 t3
        go_upto_region 8 with (first | (go_at_call 50; refine hLv2.mono ?_; rintro r w4 ⟨rfl, hb4⟩) | (refine Fx.wpList_store_new rfl 80 _ _ rfl w4 _ cs.toArray rfl rfl HI.out (by show _ = cs.length; rw [HL.out]; rfl) H1.out ?_))
        obtain ⟨w5, hw5⟩ : ∃ W, W = w4.alloc (.cells cs.toArray 80) := ⟨_, rfl⟩
        have B45 : Below w4.heap.size w4 w5 := by rw [hw5]; exact bel_new (Below.refl _ _) _
        have hP5 : PtrsAt w5 w4.heap.size (pad (lv L)) := by
          refine ⟨by rw [hw5, World.size_alloc]; exact Nat.lt_succ_self _, fun j v hv => ?_⟩
          rw [← HC.out] at hv
          rw [hw5, World.cell?_alloc_mark, Nat.zero_add]
          rw [← hv]
          simp
        rw [← hw5]
        clear hw5
        have b5 := (b3.below hb4).below B45
        have B5w := bel_then (bel_then B3 hb4) B45
        have p5 := (p4.below hb4).below B45
        have T5 := (T3.below hb4).below B45
        have s4 := hb4.size
        have s5 := B45.size
        by_cases h6 : many = 16
        · subst h6
          clear z0 z1 T3 b3 p3 p4 B3 hLv2 hb4 B45 hT hin
          obtain ⟨⟨z0, z1⟩, -, -⟩ := b5.cells
          go_wp2_with fail
          go_loopg [60] 1 (fun gh i wr => gh = 1 ∧ i = .int .i64 0 ∧ Below w5.heap.size w5 wr)
          case atStart => exact ⟨rfl, rfl, Below.refl _ _⟩
          case round =>
            obtain ⟨hg, rfl, hb⟩ := hrel
            have pr := p5.below hb
            have br := b5.below hb
            have Tr := T5.below hb
            have Br := bel_then B5w hb
            clear hg z0 z1
            obtain ⟨⟨z0, z1⟩, -, -⟩ := br.cells
            obtain ⟨⟨q0, q1⟩, f0, f1⟩ := pr.cells
            have BS : Below w.heap.size w ((wr.setCell ⟨w.heap.size + 1 + 1, 0, none⟩ (.pointer (some ⟨g, 0, none⟩))).setCell ⟨w.heap.size + 1 + 1, 1, none⟩ (.int .i64 16)) := (Br.setCell (p := ⟨w.heap.size + 1 + 1, 0, none⟩) (by simp only; omega) _).setCell (p := ⟨w.heap.size + 1 + 1, 1, none⟩) (by simp only; omega) _
            have TS : TrAt ((wr.setCell ⟨w.heap.size + 1 + 1, 0, none⟩ (.pointer (some ⟨g, 0, none⟩))).setCell ⟨w.heap.size + 1 + 1, 1, none⟩ (.int .i64 16)) (fun k => w1.heap.size ≤ k) (depthOf 16) g L gs := Tr.moved (by simp only [size_set]; exact Nat.le_refl _) (fun k hk hp => by
              rw [Below.heap_setCell _ _ _ k (by simp only; omega), Below.heap_setCell _ _ _ k (by simp only; omega)])
            have HP := Lib.hid ((pr.set0 (.pointer (some ⟨g, 0, none⟩))).set1 (.int .i64 16)).cells.1
            have HF : Hid (PlPost (plantO s ⟨⟨a, b, c, d, e⟩, dep, 16⟩) 16 w (.returned (.tuple #[.agg #[.pointer (some ⟨g, 0, none⟩), .int .i64 16], .bool true])) ((wr.setCell ⟨w.heap.size + 1 + 1, 0, none⟩ (.pointer (some ⟨g, 0, none⟩))).setCell ⟨w.heap.size + 1 + 1, 1, none⟩ (.int .i64 16))) := Lib.hid (by rw [HV.out, Option.bind_some, if_pos (show emptyFrom 16 (lv L) from (empty_iff (n := 16) h16).2 (fun k hk => absurd hk (by omega)))]; exact ⟨BS, g, gs, rfl, TS.mono fun k _ hk => by omega⟩)
            clear pr br Tr Br BS TS p5 b5 T5 B5w
            go_wp2_with fail
            obtain ⟨r0, r1⟩ := HP.out
            exact bodyPost_ret (v := .tuple #[.agg #[.pointer (some ⟨g, 0, none⟩), .int .i64 16], .bool true]) (by rw [results_cell_tmp rfl]; simp [go_sem, r0, r1]) rfl HF.out
        · obtain ⟨n, rfl⟩ : ∃ n : Nat, many = (n : Int) := ⟨many.toNat, by omega⟩
          have hn16 : n ≤ 16 := by omega
          have hn16' : (n : Int) ≤ 16 := by omega
          have h6' : ¬ 16 = n := by omega
          clear z0 z1 T3 b3 p3 p4 B3 hLv2 hb4 B45 hT hin h6
          obtain ⟨⟨z0, z1⟩, -, -⟩ := b5.cells
          go_wp2_with fail
          go_loopg [60] (16 - n) (fun gh i wr => ∃ j : Nat, gh = 16 - n - j ∧ j ≤ 16 - n ∧ i = .int .i64 j ∧ (∀ k, k < j → ((pad (lv L)).getD (n + k) P5.zero).hole = true) ∧ Below w5.heap.size w5 wr)
          case atStart => exact ⟨0, by omega, by omega, rfl, fun k h => absurd h (by omega), Below.refl _ _⟩
          case round =>
            obtain ⟨j, hg, hj, rfl, hh, hb⟩ := hrel
            have HG := Lib.hid hg
            have pr := p5.below hb
            have br := b5.below hb
            have Tr := T5.below hb
            have Br := bel_then B5w hb
            have Pr := hP5.below hb
            have sr := hb.size
            clear hg z0 z1
            obtain ⟨⟨z0, z1⟩, -, -⟩ := br.cells
            by_cases hlt : j < 16 - n
            · have hlt' : (j : Int) < ((16 - n : Nat) : Int) := by omega
              have hlp : n + j < (pad (lv L)).length := by rw [pad_len h16]; omega
              obtain ⟨⟨pa, pb, pc, pd, pe⟩, hpj⟩ : ∃ r, (pad (lv L))[n + j] = r := ⟨_, rfl⟩
              obtain ⟨u0, u1, u2, u3, u4⟩ := Pr.cell (n + j) hlp hpj
              rw [show (n + j) * 5 = n * 5 + j * 5 by omega] at u0 u1 u2 u3 u4
              have hgd : (pad (lv L)).getD (n + j) P5.zero = ⟨pa, pb, pc, pd, pe⟩ := by rw [List.getD_eq_getElem?_getD, List.getElem?_eq_getElem hlp, Option.getD_some, hpj]
              have hM := fun W => m_hole pa pb pc pd pe W
              obtain ⟨z, hz⟩ : ∃ z, z = isHole pa pb pc pd pe := ⟨_, rfl⟩
              rw [← hz] at hM
              cases z with
              | true =>
                have HK : Hid (∀ k, k < j + 1 → ((pad (lv L)).getD (n + k) P5.zero).hole = true) := Lib.hid (fun k hk => by
                  by_cases e1 : k = j
                  · subst e1; rw [hgd]; exact hz.symm
                  · exact hh k (by omega))
                clear hh hz hgd hpj pr br Tr Br Pr p5 b5 T5 B5w
                go_wp2_with (go_at_call 68; refine (hM _).mono ?_; rintro r w7 ⟨rfl, rfl⟩)
                go_roundg (16 - n - (j + 1))
                case measure => have := HG.out; omega
                case rel => exact ⟨j + 1, rfl, by omega, by go_num, HK.out, bel_new (bel_new hb _) _⟩
              | false =>
                have HN : Hid (plantO s ⟨⟨a, b, c, d, e⟩, dep, (n : Int)⟩ = none) := Lib.hid (by
                  rw [HV.out, Option.bind_some, if_neg]
                  intro he
                  have h1 := (empty_iff h16).1 he j hlt
                  rw [hgd] at h1
                  exact absurd (hz.trans h1) (by decide))
                have pX := (pr.alloc (.cells #[.int .i64 pa, .int .i64 pb, .int .i64 pc, .int .i64 pd, .int .i64 pe] 40)).alloc (.cells #[.int .i64 pa, .int .i64 pb, .int .i64 pc, .int .i64 pd, .int .i64 pe] 40)
                have bX := bel_new (bel_new Br (.cells #[.int .i64 pa, .int .i64 pb, .int .i64 pc, .int .i64 pd, .int .i64 pe] 40)) (.cells #[.int .i64 pa, .int .i64 pb, .int .i64 pc, .int .i64 pd, .int .i64 pe] 40)
                generalize hWX : (wr.alloc (.cells #[.int .i64 pa, .int .i64 pb, .int .i64 pc, .int .i64 pd, .int .i64 pe] 40)).alloc (.cells #[.int .i64 pa, .int .i64 pb, .int .i64 pc, .int .i64 pd, .int .i64 pe] 40) = WX at pX bX
                obtain ⟨⟨q0, q1⟩, f0, f1⟩ := pX.cells
                have HB : Hid (Below w.heap.size w ((WX.setCell ⟨w.heap.size + 1 + 1, 0, none⟩ (.pointer none)).setCell ⟨w.heap.size + 1 + 1, 1, none⟩ (.int .i64 0))) := Lib.hid ((bX.setCell (p := ⟨w.heap.size + 1 + 1, 0, none⟩) (by simp only; omega) _).setCell (p := ⟨w.heap.size + 1 + 1, 1, none⟩) (by simp only; omega) _)
                have HP := Lib.hid ((pX.set0 (.pointer none)).set1 (.int .i64 0)).cells.1
                have hM2 : Calls Tryz.prog 68 #[.agg #[.int .i64 pa, .int .i64 pb, .int .i64 pc, .int .i64 pd, .int .i64 pe]] (wr.alloc (.cells #[.int .i64 pa, .int .i64 pb, .int .i64 pc, .int .i64 pd, .int .i64 pe] 40)) fun r w' => r = .returned (.bool false) ∧ w' = WX := (hM _).mono fun r w' h => ⟨h.1, h.2.trans hWX⟩
                clear hM hh hz hgd hpj pr br Tr Br Pr p5 b5 T5 B5w pX bX hWX
                go_wp2_with (go_at_call 68; refine hM2.mono ?_; rintro r w7 ⟨rfl, rfl⟩)
                obtain ⟨r0, r1⟩ := HP.out
                exact bodyPost_ret (v := .tuple #[.agg #[.pointer none, .int .i64 0], .bool false]) (by rw [results_cell_tmp rfl]; simp [go_sem, r0, r1]) rfl ⟨HB.out, by rw [HN.out]⟩
            · obtain rfl : j = 16 - n := by omega
              obtain ⟨⟨q0, q1⟩, f0, f1⟩ := pr.cells
              have BS : Below w.heap.size w ((wr.setCell ⟨w.heap.size + 1 + 1, 0, none⟩ (.pointer (some ⟨g, 0, none⟩))).setCell ⟨w.heap.size + 1 + 1, 1, none⟩ (.int .i64 (n : Int))) := (Br.setCell (p := ⟨w.heap.size + 1 + 1, 0, none⟩) (by simp only; omega) _).setCell (p := ⟨w.heap.size + 1 + 1, 1, none⟩) (by simp only; omega) _
              have TS : TrAt ((wr.setCell ⟨w.heap.size + 1 + 1, 0, none⟩ (.pointer (some ⟨g, 0, none⟩))).setCell ⟨w.heap.size + 1 + 1, 1, none⟩ (.int .i64 (n : Int))) (fun k => w1.heap.size ≤ k) (depthOf (n : Int)) g L gs := Tr.moved (by simp only [size_set]; exact Nat.le_refl _) (fun k hk hp => by
                rw [Below.heap_setCell _ _ _ k (by simp only; omega), Below.heap_setCell _ _ _ k (by simp only; omega)])
              have HP := Lib.hid ((pr.set0 (.pointer (some ⟨g, 0, none⟩))).set1 (.int .i64 (n : Int))).cells.1
              have HF : Hid (PlPost (plantO s ⟨⟨a, b, c, d, e⟩, dep, (n : Int)⟩) (n : Int) w (.returned (.tuple #[.agg #[.pointer (some ⟨g, 0, none⟩), .int .i64 (n : Int)], .bool true])) ((wr.setCell ⟨w.heap.size + 1 + 1, 0, none⟩ (.pointer (some ⟨g, 0, none⟩))).setCell ⟨w.heap.size + 1 + 1, 1, none⟩ (.int .i64 (n : Int)))) := Lib.hid (by rw [HV.out, Option.bind_some, if_pos ((empty_iff h16).2 hh)]; exact ⟨BS, g, gs, rfl, TS.mono fun k _ hk => by omega⟩)
              clear pr br Tr Br BS TS p5 b5 T5 B5w hh Pr
              go_wp2_with fail
              obtain ⟨r0, r1⟩ := HP.out
              exact bodyPost_ret (v := .tuple #[.agg #[.pointer (some ⟨g, 0, none⟩), .int .i64 (n : Int)], .bool true]) (by rw [results_cell_tmp rfl]; simp [go_sem, r0, r1]) rfl HF.out
end Go.Proofs.YtjmfefaoenmppaaGreatDoor
