/-
  Whether a tree is valid in a store that is, as the specification asks.
-/
import Derived.Test.YtjmfefaoenmppaaGreatDoorKJ
import Derived.Test.YtjmfefaoenmppaaGreatDoorKE
namespace Go.Proofs.YtjmfefaoenmppaaGreatDoor
open Go.RowKit

theorem expS_ok {s : St} {l : Nat} {ps Q : List P5} (h : expS s l ps = some Q) : ∀ q ∈ Q, q.ok = true := by
  unfold expS at h
  induction ps generalizing Q with
  | nil => injection h with h; subst h; simp
  | cons p ps ih =>
    rw [brAll] at h
    cases h1 : belS s p l with
    | none => rw [h1, both_none] at h; cases h
    | some x =>
      cases h2 : brAll (fun p => belS s p l) ps with
      | none => rw [h2, both_none'] at h; cases h
      | some y =>
        rw [h1, h2, both_some] at h
        injection h with h
        subst h
        exact fun q hq => (List.mem_append.1 hq).elim ((belS_some h1).2 q) (ih h2 q)
theorem levS_ok {s : St} {l : Nat} : ∀ {ps Q : List P5}, (∀ p ∈ ps, p.ok = true) → levS s l ps = some Q → ∀ q ∈ Q, q.ok = true := by
  induction l with
  | zero => intro ps Q h e; injection e with e; subst e; exact h
  | succ l ih =>
    intro ps Q h e
    cases h1 : expS s (l + 1) ps with
    | none => rw [levS, h1] at e; cases e
    | some x => rw [levS, h1, Option.bind_some] at e; exact ih (expS_ok h1) e
theorem expS_len {s : St} {l : Nat} {ps Q : List P5} (h : expS s l ps = some Q) : Q.length = 4 * ps.length := by
  unfold expS at h
  induction ps generalizing Q with
  | nil => injection h with h; subst h; rfl
  | cons p ps ih =>
    rw [brAll] at h
    cases h1 : belS s p l with
    | none => rw [h1, both_none] at h; cases h
    | some x =>
      cases h2 : brAll (fun p => belS s p l) ps with
      | none => rw [h2, both_none'] at h; cases h
      | some y =>
        rw [h1, h2, both_some] at h
        injection h with h
        subst h
        rw [List.length_append, (belS_some h1).1, ih h2, List.length_cons]
        omega
theorem levS_len {s : St} {l : Nat} : ∀ {ps Q : List P5}, levS s l ps = some Q → Q.length = 4 ^ l * ps.length := by
  induction l with
  | zero => intro ps Q e; injection e with e; subst e; simp
  | succ l ih =>
    intro ps Q e
    cases h1 : expS s (l + 1) ps with
    | none => rw [levS, h1] at e; cases e
    | some x =>
      rw [levS, h1, Option.bind_some] at e
      rw [ih e, expS_len h1, Nat.pow_succ, Nat.mul_assoc]
theorem levS_16 {s : St} {l : Nat} (hl : l ≤ 2) {p : P5} {Q : List P5} (h : levS s l [p] = some Q) : Q.length ≤ 16 := by
  rw [levS_len h]
  rcases (show l = 0 ∨ l = 1 ∨ l = 2 by omega) with h | h | h <;> rw [h] <;> simp
theorem okT_form {s : St} {t : Tr} (h : ¬ formT t) : okT s t = false := by unfold okT; rw [decide_eq_false h]; rfl
theorem okT_none {s : St} {t : Tr} (h : leavesT s t = none) : okT s t = false := by unfold okT; rw [h]; exact Bool.and_false _
theorem okT_some {s : St} {t : Tr} (hf : formT t) {Q : List P5} (h : leavesT s t = some Q) : okT s t = decide (allT s t.many Q) := by unfold okT; rw [h, decide_eq_true hf]; exact Bool.true_and _

set_option maxRecDepth 100000 in
set_option maxHeartbeats 8000000 in
theorem spec_l8ok (x : SA) (s : St) (a b c d e dep many : Int) (w : World) (hok : StOk s) (ht : ∀ t ∈ s.rows, t.size ≤ maxLen) (hA : StAt w x s) :
    Calls Tryz.prog 41 #[.agg #[.slice x.A s.rows.length x.a, .slice x.R s.sp.refs.length x.r, .slice x.L s.sp.last.length x.l, .int .i64 s.txg, .slice x.G s.gone.length x.g, .int .i64 s.keep, .slice x.D s.dead.length x.d, .bool s.same], .agg #[.int .i64 a, .int .i64 b, .int .i64 c, .int .i64 d, .int .i64 e, .int .i64 dep, .int .i64 many]] w fun r w' => r = .returned (.bool (okT s ⟨⟨a, b, c, d, e⟩, dep, many⟩)) ∧ Below w.heap.size w w' := by
  have c0 := (B8.new w 38 (.slice x.A s.rows.length x.a) (.slice x.R s.sp.refs.length x.r) (.slice x.L s.sp.last.length x.l) (.int .i64 s.txg) (.slice x.G s.gone.length x.g) (.int .i64 s.keep) (.slice x.D s.dead.length x.d) (.bool s.same)).alloc (.cells #[.int .i64 a, .int .i64 b, .int .i64 c, .int .i64 d, .int .i64 e, .int .i64 dep, .int .i64 many] 42)
  have t0 := B7.new (w.alloc (.cells #[.slice x.A s.rows.length x.a, .slice x.R s.sp.refs.length x.r, .slice x.L s.sp.last.length x.l, .int .i64 s.txg, .slice x.G s.gone.length x.g, .int .i64 s.keep, .slice x.D s.dead.length x.d, .bool s.same] 38)) a b c d e dep many 42
  have BB : Below w.heap.size w ((w.alloc (.cells #[.slice x.A s.rows.length x.a, .slice x.R s.sp.refs.length x.r, .slice x.L s.sp.last.length x.l, .int .i64 s.txg, .slice x.G s.gone.length x.g, .int .i64 s.keep, .slice x.D s.dead.length x.d, .bool s.same] 38)).alloc (.cells #[.int .i64 a, .int .i64 b, .int .i64 c, .int .i64 d, .int .i64 e, .int .i64 dep, .int .i64 many] 42)) := bel_new (bel_new (Below.refl _ _) _) _
  rw [World.size_alloc] at t0
  have hI := fun W => s_in many 0 16 W
  have hP := fun W => spec_pok a b c d e W
  have hAw := hA
  go_enter Tryz.func41, Tryz.ntmps41
  go_upto_region 1 with fail
  generalize hW0 : (w.alloc (.cells #[.slice x.A s.rows.length x.a, .slice x.R s.sp.refs.length x.r, .slice x.L s.sp.last.length x.l, .int .i64 s.txg, .slice x.G s.gone.length x.g, .int .i64 s.keep, .slice x.D s.dead.length x.d, .bool s.same] 38)).alloc (.cells #[.int .i64 a, .int .i64 b, .int .i64 c, .int .i64 d, .int .i64 e, .int .i64 dep, .int .i64 many] 42) = W0 at c0 t0 BB
  clear hW0 hA
  have t1 : B7 W0.drew (w.heap.size + 1) a b c d e dep many 42 := t0
  obtain ⟨y0, y1, y2, y3, y4, y5, y6⟩ := t1.cells
  obtain ⟨V, hV⟩ : ∃ V, V = !(decide (formT ⟨⟨a, b, c, d, e⟩, dep, many⟩)) := ⟨_, rfl⟩
  go_cut [28] (fun v wx => v = .bool V ∧ Below W0.heap.size W0 wx)
  case first =>
    clear c0 t0 t1 BB hok ht hAw
    cases hi : inB many 0 16 with
    | false =>
      have hf : ¬ formT ⟨⟨a, b, c, d, e⟩, dep, many⟩ := fun h => by have := inB_yes h.1; simp only at this; rw [hi] at this; cases this
      have HV : Hid (V = true) := Lib.hid (by rw [hV, decide_eq_false hf]; rfl)
      clear hV hf
      rw [hi] at hI
      first
        | go_region_with (go_at_call 54; refine (hI _).mono ?_; rintro r w3 ⟨rfl, rfl⟩)
        | fail "region"
      all_goals go_wp2_with fail
      all_goals go_meet
      all_goals exact ⟨by rw [HV.out], (Below.refl _ _).drew⟩
    | true =>
      have hin := inB_iff.1 hi
      have hD := fun W => spec_depth many W
      rw [hi] at hI
      by_cases hd : dep = (depthOf many : Int)
      · have hd2 : (dep != (depthOf many : Int)) = false := by rw [hd]; simp
        obtain ⟨o, ho⟩ : ∃ o, o = isOk a b c d e := ⟨_, rfl⟩
        have HV : Hid (V = !o) := Lib.hid (by
          rw [hV]
          cases o with
          | true => rw [decide_eq_true (show formT ⟨⟨a, b, c, d, e⟩, dep, many⟩ from ⟨hin, hd, ho.symm⟩)]
          | false => rw [decide_eq_false (fun h => by have : isOk a b c d e = true := h.2.2; rw [← ho] at this; cases this)])
        rw [← ho] at hP
        clear hd hV ho
        generalize (depthOf many : Int) = dd at hD hd2
        first
          | go_region_with (first | (go_at_call 54; refine (hI _).mono ?_; rintro r w3 ⟨rfl, rfl⟩) | (go_at_call 73; refine (hD _).mono ?_; rintro r w3 ⟨rfl, rfl⟩) | (go_at_call 71; refine (hP _).mono ?_; rintro r w3 ⟨rfl, rfl⟩))
          | fail "region"
        all_goals go_wp2_with fail
        all_goals go_meet
        all_goals exact ⟨by rw [HV.out], bel_new (bel_new (Below.refl _ _).drew _) _⟩
      · have hd2 : (dep != (depthOf many : Int)) = true := by rw [bne_iff_ne]; exact hd
        have hf : ¬ formT ⟨⟨a, b, c, d, e⟩, dep, many⟩ := fun h => hd h.2.1
        have HV : Hid (V = true) := Lib.hid (by rw [hV, decide_eq_false hf]; rfl)
        clear hf hd hV
        generalize (depthOf many : Int) = dd at hD hd2
        first
          | go_region_with (first | (go_at_call 54; refine (hI _).mono ?_; rintro r w3 ⟨rfl, rfl⟩) | (go_at_call 73; refine (hD _).mono ?_; rintro r w3 ⟨rfl, rfl⟩))
          | fail "region"
        all_goals go_wp2_with fail
        all_goals go_meet
        all_goals exact ⟨by rw [HV.out], (Below.refl _ _).drew⟩
  case rest =>
    obtain ⟨rfl, hb1⟩ := hcut
    obtain ⟨w1, ew1, hb1⟩ : ∃ W, W = _ ∧ Below W0.heap.size W0 W := ⟨_, rfl, hb1⟩
    subst ew1
    clear y0 y1 y2 y3 y4 y5 y6 hI hP t1
    have B1 := bel_then BB hb1
    cases V with
    | true =>
      have HN := Lib.hid (okT_form (s := s) (t := ⟨⟨a, b, c, d, e⟩, dep, many⟩) (fun h => by rw [decide_eq_true h] at hV; cases hV))
      clear hV
      go_wp2_with fail
      go_ret
      exact ⟨by rw [HN.out]; rfl, B1⟩
    | false =>
      have hf : formT ⟨⟨a, b, c, d, e⟩, dep, many⟩ := by
        by_cases h : formT ⟨⟨a, b, c, d, e⟩, dep, many⟩
        · exact h
        · rw [decide_eq_false h] at hV; cases hV
      have hT := fun (Q : List P5) (h : leavesT s ⟨⟨a, b, c, d, e⟩, dep, many⟩ = some Q) => okT_some hf h
      have hTn := @okT_none s ⟨⟨a, b, c, d, e⟩, dep, many⟩
      obtain ⟨hin, hdep, hrok⟩ := hf
      simp only at hin hdep hrok
      have hC := spec_leaves x s a b c d e dep many (depthOf many) w1 hok ht (hAw.below B1) hrok (depthOf_le many) hdep
      have hQok := fun Q => levS_ok (s := s) (l := depthOf many) (ps := [⟨a, b, c, d, e⟩]) (Q := Q) (fun p hp => by rw [List.mem_singleton.1 hp]; exact hrok)
      have hQl := fun Q => levS_16 (s := s) (l := depthOf many) (depthOf_le many) (p := ⟨a, b, c, d, e⟩) (Q := Q)
      obtain ⟨O, hO⟩ : ∃ O, O = levS s (depthOf many) [⟨a, b, c, d, e⟩] := ⟨_, rfl⟩
      have hO2 : leavesT s ⟨⟨a, b, c, d, e⟩, dep, many⟩ = O := by rw [hO]; rfl
      rw [← hO] at hC hQok hQl
      rw [hO2] at hT hTn
      obtain ⟨T, hTT⟩ : ∃ T, T = okT s ⟨⟨a, b, c, d, e⟩, dep, many⟩ := ⟨_, rfl⟩
      rw [← hTT] at hT hTn
      have HTT := Lib.hid hTT
      have c2 := c0.below hb1
      have t2 := t0.below hb1
      obtain ⟨x0, x1, x2, x3, x4, x5, x6, x7⟩ := c2.cells
      obtain ⟨y0, y1, y2, y3, y4, y5, y6⟩ := t2.cells
      clear hV hdep hO hO2 hTT c0 t0 BB hb1
      cases O with
      | none =>
        have HN := Lib.hid (hTn rfl)
        have hC2 : Calls Tryz.prog 49 #[.agg #[.slice x.A s.rows.length x.a, .slice x.R s.sp.refs.length x.r, .slice x.L s.sp.last.length x.l, .int .i64 s.txg, .slice x.G s.gone.length x.g, .int .i64 s.keep, .slice x.D s.dead.length x.d, .bool s.same], .agg #[.int .i64 a, .int .i64 b, .int .i64 c, .int .i64 d, .int .i64 e, .int .i64 dep, .int .i64 many]] w1 fun r w' => ∃ (A : Option Addr) (cc : Nat), r = .returned (.tuple #[.slice A 0 cc, .bool false]) ∧ Below w1.heap.size w1 w' := hC.mono fun r w' h => by obtain ⟨h1, A, cc, h2⟩ := h; exact ⟨A, cc, h2, h1⟩
        clear hC hT hTn hQok hQl
        go_wp2_with (go_at_call 49; refine hC2.mono ?_; rintro r w2 ⟨A, cc, rfl, hb2⟩)
        go_ret
        exact ⟨by rw [← HTT.out, HN.out]; rfl, bel_then B1 hb2⟩
      | some Q =>
        have hQ := hQok Q rfl
        have hTQ := hT Q rfl
        have hQ16 := hQl Q rfl
        have hC2 : Calls Tryz.prog 49 #[.agg #[.slice x.A s.rows.length x.a, .slice x.R s.sp.refs.length x.r, .slice x.L s.sp.last.length x.l, .int .i64 s.txg, .slice x.G s.gone.length x.g, .int .i64 s.keep, .slice x.D s.dead.length x.d, .bool s.same], .agg #[.int .i64 a, .int .i64 b, .int .i64 c, .int .i64 d, .int .i64 e, .int .i64 dep, .int .i64 many]] w1 fun r w' => ∃ g cc : Nat, r = .returned (.tuple #[.slice (some ⟨g, 0, none⟩) Q.length cc, .bool true]) ∧ Below w1.heap.size w1 w' ∧ PtrsAt w' g Q := hC.mono fun r w' h => by obtain ⟨h1, g, cc, h2, h3, h4⟩ := h; exact ⟨g, cc, h2, h1, h4⟩
        clear hC hT hTn hQok hQl
        go_wp2_with (go_at_call 49; refine hC2.mono ?_; rintro r w2 ⟨g, cc, rfl, hb2, hPt⟩; refine Hid.out ?_)
        refine Lib.hid ?_
        have c3 := c2.below hb2
        have t3 := t2.below hb2
        have B2w := bel_then B1 hb2
        clear hC2 c2 t2 hb2 B1 x0 x1 x2 x3 x4 x5 x6 x7 y0 y1 y2 y3 y4 y5 y6
        go_wp2_with fail
        go_loopg [7] Q.length (fun gh i wr => ∃ j : Nat, gh = Q.length - j ∧ j ≤ Q.length ∧ i = .int .i64 j ∧ (∀ k, k < j → leafT s many k (Q.getD k P5.zero)) ∧ Below w2.heap.size w2 wr)
        case atStart => exact ⟨0, by omega, by omega, rfl, fun k h => absurd h (by omega), Below.refl _ _⟩
        case round =>
          obtain ⟨j, hg, hj, rfl, hall, hb⟩ := hrel
          have HG := Lib.hid hg
          clear hg
          by_cases hlt : j < Q.length
          · have hlt' : (j : Int) < (Q.length : Int) := by omega
            obtain ⟨⟨pa, pb, pc, pd, pe⟩, hpj⟩ : ∃ r, Q[j] = r := ⟨_, rfl⟩
            have hpo : isOk pa pb pc pd pe = true := by have := hQ _ (List.getElem_mem hlt); rw [hpj] at this; exact this
            have hgd : Q.getD j P5.zero = ⟨pa, pb, pc, pd, pe⟩ := by rw [List.getD_eq_getElem?_getD, List.getElem?_eq_getElem hlt, Option.getD_some, hpj]
            obtain ⟨u0, u1, u2, u3, u4⟩ := (hPt.below hb).cell j hlt hpj
            go_upto_region 10 with fail
            have hb7 := bel_new (Below.refl wr.heap.size wr) (.cells #[.int .i64 pa, .int .i64 pb, .int .i64 pc, .int .i64 pd, .int .i64 pe] 40)
            have q7 := B5.new wr pa pb pc pd pe 40
            obtain ⟨W7, hW7⟩ : ∃ W, W = wr.alloc (.cells #[.int .i64 pa, .int .i64 pb, .int .i64 pc, .int .i64 pd, .int .i64 pe] 40) := ⟨_, rfl⟩
            rw [← hW7] at hb7 q7 ⊢
            clear hW7 u0 u1 u2 u3 u4
            have hb8 := bel_then hb hb7
            have hM := fun W => spec_hole pa pb pc pd pe W
            obtain ⟨z, hz⟩ : ∃ z, z = isHole pa pb pc pd pe := ⟨_, rfl⟩
            rw [← hz] at hM
            obtain ⟨k0, k1, k2, k3, k4, hgl2⟩ := id q7
            cases z with
            | true =>
              have HK : Hid (∀ k, k < j + 1 → leafT s many k (Q.getD k P5.zero)) := Lib.hid (fun k hk => by
                by_cases e1 : k = j
                · subst e1; rw [hgd]; exact .inl hz.symm
                · exact hall k (by omega))
              clear hall hgd hpj hz hTQ hQ
              go_wp2_with (go_at_call 72; refine (hM _).mono ?_; rintro r w8 ⟨rfl, rfl⟩)
              go_roundg (Q.length - (j + 1))
              case measure => have := HG.out; omega
              case rel => exact ⟨j + 1, rfl, by omega, by go_num, HK.out, bel_new hb8 _⟩
            | false =>
              have q8 := q7.below (bel_new (Below.refl _ _) (.cells #[.int .i64 pa, .int .i64 pb, .int .i64 pc, .int .i64 pd, .int .i64 pe] 40))
              have c8 := ((c3.below hb8).below (bel_new (Below.refl _ _) (.cells #[.int .i64 pa, .int .i64 pb, .int .i64 pc, .int .i64 pd, .int .i64 pe] 40)))
              have t8 := ((t3.below hb8).below (bel_new (Below.refl _ _) (.cells #[.int .i64 pa, .int .i64 pb, .int .i64 pc, .int .i64 pd, .int .i64 pe] 40)))
              have B8w := bel_new (bel_then B2w hb8) (.cells #[.int .i64 pa, .int .i64 pb, .int .i64 pc, .int .i64 pd, .int .i64 pe] 40)
              have b8n := bel_new hb8 (.cells #[.int .i64 pa, .int .i64 pb, .int .i64 pc, .int .i64 pd, .int .i64 pe] 40)
              have hR := spec_l7read x s pa pb pc pd pe _ hok ht (hAw.below B8w) hpo
              have hleaf : leafT s many j ⟨pa, pb, pc, pd, pe⟩ ↔ ((readC s ⟨pa, pb, pc, pd, pe⟩).2 = true ∧ pe = 0 ∧ pb ≤ s.txg ∧ (j : Int) < many) := by
                unfold leafT
                constructor
                · rintro (h | h)
                  · exact absurd (hz.trans h) (by decide)
                  · exact h
                · exact .inr
              obtain ⟨⟨tx, q⟩, hrd⟩ : ∃ q, q = readC s ⟨pa, pb, pc, pd, pe⟩ := ⟨_, rfl⟩
              rw [← hrd] at hR hleaf
              clear hz hrd
              go_upto_region 11 with (go_at_call 72; refine (hM _).mono ?_; rintro r w8 ⟨rfl, rfl⟩)
              generalize W7.alloc (.cells #[.int .i64 pa, .int .i64 pb, .int .i64 pc, .int .i64 pd, .int .i64 pe] 40) = W8 at q8 c8 t8 B8w b8n hR ⊢
              clear k0 k1 k2 k3 k4 hM q7 hb7 hb8 hpo hpj hb
              obtain ⟨x0, x1, x2, x3, x4, x5, x6, x7⟩ := c8.cells
              obtain ⟨k0, k1, k2, k3, k4, hgl3⟩ := id q8
              go_upto_region 12 with (go_at_call 74; refine hR.mono ?_; rintro r w9 ⟨rfl, hb9⟩)
              have c9 := c8.below hb9
              have q9 := q8.below hb9
              have t9 := t8.below hb9
              have b9n := bel_then b8n hb9
              have B9w := bel_then B8w hb9
              clear x0 x1 x2 x3 x4 x5 x6 x7 k0 k1 k2 k3 k4 c8 q8 t8 hR
              obtain ⟨x0, x1, x2, x3, x4, x5, x6, x7⟩ := c9.cells
              obtain ⟨k0, k1, k2, k3, k4, hgl4⟩ := id q9
              obtain ⟨y0, y1, y2, y3, y4, y5, y6⟩ := t9.cells
              by_cases hl : leafT s many j ⟨pa, pb, pc, pd, pe⟩
              · have HK : Hid (∀ k, k < j + 1 → leafT s many k (Q.getD k P5.zero)) := Lib.hid (fun k hk => by
                  by_cases e1 : k = j
                  · subst e1; rw [hgd]; exact hl
                  · exact hall k (by omega))
                obtain ⟨h1, h2, h3, h4⟩ := hleaf.1 hl
                have h1' : q = true := h1
                subst h1'
                have hne : (pe != 0) = false := by rw [h2]; rfl
                have hb1 : ¬ s.txg < pb := by omega
                have hm1 : ¬ many ≤ (j : Int) := by omega
                clear hall hgd hTQ hQ hl hleaf h1 h2 h3 h4
                go_wp2_with fail
                go_roundg (Q.length - (j + 1))
                case measure => have := HG.out; omega
                case rel => exact ⟨j + 1, rfl, by omega, by go_num, HK.out, b9n⟩
              · have HN : Hid (T = false) := Lib.hid (by rw [hTQ, decide_eq_false]; intro ha; exact hl (by have := ha j hlt; rw [hgd] at this; exact this))
                have hnl := fun h => hl (hleaf.2 h)
                clear hall hgd hTQ hQ hl hleaf
                cases q with
                | false =>
                  clear hnl
                  go_wp2_with fail
                  go_ret
                  exact ⟨by rw [← HTT.out, HN.out]; rfl, B9w⟩
                | true =>
                  by_cases h2 : pe = 0
                  · have hne : (pe != 0) = false := by rw [h2]; rfl
                    by_cases h3 : pb ≤ s.txg
                    · have hb1 : ¬ s.txg < pb := by omega
                      have hm1 : many ≤ (j : Int) := Int.not_lt.1 (fun h4 => hnl ⟨rfl, h2, h3, h4⟩)
                      clear hnl h2
                      go_wp2_with fail
                      go_ret
                      exact ⟨by rw [← HTT.out, HN.out]; rfl, B9w⟩
                    · have hb1 : s.txg < pb := by omega
                      clear hnl h2
                      go_wp2_with fail
                      go_ret
                      exact ⟨by rw [← HTT.out, HN.out]; rfl, B9w⟩
                  · have hne : (pe != 0) = true := by rw [bne_iff_ne]; exact h2
                    clear hnl h2
                    go_wp2_with fail
                    go_ret
                    exact ⟨by rw [← HTT.out, HN.out]; rfl, B9w⟩
          · obtain rfl : j = Q.length := by omega
            have HN : Hid (T = true) := Lib.hid (by rw [hTQ, decide_eq_true]; exact hall)
            have BF := bel_then B2w hb
            clear hall hTQ hQ
            go_wp2_with fail
            go_ret
            exact ⟨by rw [← HTT.out, HN.out]; rfl, BF⟩
end Go.Proofs.YtjmfefaoenmppaaGreatDoor
